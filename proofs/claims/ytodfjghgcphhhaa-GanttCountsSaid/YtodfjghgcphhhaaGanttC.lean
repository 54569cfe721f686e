/- Legs: for how many ticks of a span a car goes up, down, has its door open. -/
import Derived.Test.YtodfjghgcphhhaaRows
import Derived.Test.YtodfjghgcphhhaaRowKit
import Derived.Test.YtodfjghgcphhhaaRowS
import Derived.Test.YtodfjghgcphhhaaRowZ
import Derived.Test.YtodfjghgcphhhaaRowV
import Derived.Test.YtodfjghgcphhhaaRowW
import Derived.Test.YtodfjghgcphhhaaSlicesEq
import Derived.Test.YtodfjghgcphhhaaBlocks
import Derived.Test.YtodfjghgcphhhaaAtKit
import Derived.Test.YtodfjghgcphhhaaGanttMath
import Derived.Test.YtodfjghgcphhhaaTrackA
import Derived.WalkKit
import Derived.IntWalk
import Derived.Lib.Hide
import Derived.WalkSpells
import Derived.WalkLawsBesides
import Derived.OwnWalk
import Derived.Deep.QuietTactic
import Derived.BigQuiet
import Derived.Deep.RegionHeld3
import Derived.Deep.LoopGhost
import Derived.BigRegion
import Derived.Below
import Derived.Test.YtodfjghgcphhhaaTrackB
import Derived.Test.YtodfjghgcphhhaaGanttM2
import Derived.Test.YtodfjghgcphhhaaGanttB
namespace Go.Proofs.Ytodfjghgcphhhaa
open Go.RowKit
set_option linter.unusedSimpArgs false
set_option linter.unusedVariables false
def CntR (T P D : Nat → Int) (O : Nat → Bool) (n : Nat) (f tt : Int) (w : World) (e : Ending) (w' : World) : Prop :=
  e = .returned (.tuple #[.int .i64 (sumF (upL T P D O n) f (tt - f).toNat), .int .i64 (sumF (dnL T P D O n) f (tt - f).toNat), .int .i64 (sumF (doL T O n) f (tt - f).toNat)]) ∧ Below w.heap.size w w'
set_option maxRecDepth 100000 in
set_option maxHeartbeats 20000000 in
theorem gcount_any (A : Option Addr) (c n : Nat) (T P D : Nat → Int) (O : Nat → Bool) (f tt : Int) (w : World) (hr : RdL w A n T P D O) (hf : FineL T P D n) (s1 : -1048576 ≤ f) (s2 : f ≤ 1048576) (s3 : -1048576 ≤ tt) (s4 : tt ≤ f + 300) :
    Calls Try.prog 8 #[.slice A n c, .agg #[.int .i64 f, .int .i64 tt]] w (CntR T P D O n f tt w) := by
  have HR := Lib.hid hr; have HF := Lib.hid hf
  have hn : n ≤ 60 := hf.1
  have HRS := Lib.hid hf.2.1
  have hle := lastL_le T f n
  obtain ⟨r, hrr⟩ : ∃ r, lastL T f n = r := ⟨_, rfl⟩
  have HRR := Lib.hid hrr
  rw [hrr] at hle
  have HE : ∀ i w', (i < n → tt ≤ T i) → Below w.heap.size w w' → CntR T P D O n f tt w (.returned (.tuple #[.int .i64 (partL (upL T P D O n) T n f tt i), .int .i64 (partL (dnL T P D O n) T n f tt i), .int .i64 (partL (doL T O n) T n f tt i)])) w' := fun i w' h hb => by
    rw [part_end h, part_end h, part_end h]; exact ⟨rfl, hb⟩
  have HEE := Lib.hid HE
  obtain ⟨RES, hRES⟩ : ∃ Q, CntR T P D O n f tt w = Q := ⟨_, rfl⟩
  rw [hRES] at HEE ⊢
  have KS := Lib.hid (fun gl gt w hr hL hT => gsearch_any A c n T P D O f tt gl gt w hr hn HRS.out hL hT)
  rw [hrr] at KS
  clear hr hf hrr HE hRES
  go_enter Try.func8, Try.ntmps8
  go_wp2_with fail
  have BL := ((Blk.new w #[.slice A n c] 22).alloc (.cells #[.int .i64 f, .int .i64 tt] 24)).alloc (.cells #[.int .i64 0, .int .i64 0, .int .i64 0] 49)
  have BS := (Blk.new (w.alloc (.cells #[.slice A n c] 22)) #[.int .i64 f, .int .i64 tt] 24).alloc (.cells #[.int .i64 0, .int .i64 0, .int .i64 0] 49)
  rw [World.size_alloc] at BS
  have BC := Blk.new ((w.alloc (.cells #[.slice A n c] 22)).alloc (.cells #[.int .i64 f, .int .i64 tt] 24)) #[.int .i64 0, .int .i64 0, .int .i64 0] 49
  rw [World.size_alloc, World.size_alloc] at BC
  have BE : Below w.heap.size w (((w.alloc (.cells #[.slice A n c] 22)).alloc (.cells #[.int .i64 f, .int .i64 tt] 24)).alloc (.cells #[.int .i64 0, .int .i64 0, .int .i64 0] 49)) := (((Below.refl w.heap.size w).alloc (Nat.le_refl _) _).alloc (by simp <;> omega) _).alloc (by simp <;> omega) _
  obtain ⟨V0, hV0⟩ : ∃ V, (((w.alloc (.cells #[.slice A n c] 22)).alloc (.cells #[.int .i64 f, .int .i64 tt] 24)).alloc (.cells #[.int .i64 0, .int .i64 0, .int .i64 0] 49)) = V := ⟨_, rfl⟩
  rw [hV0] at BL BS BC BE ⊢
  have HL := Lib.hid BL
  have HS := Lib.hid BS
  have HC := Lib.hid BC
  have EE := Lib.hid BE
  have ne0_1 : w.heap.size ≠ w.heap.size + 1 := by omega
  have ne0_2 : w.heap.size ≠ w.heap.size + 1 + 1 := by omega
  have ne1_0 : w.heap.size + 1 ≠ w.heap.size := by omega
  have ne1_2 : w.heap.size + 1 ≠ w.heap.size + 1 + 1 := by omega
  have ne2_0 : w.heap.size + 1 + 1 ≠ w.heap.size := by omega
  have ne2_1 : w.heap.size + 1 + 1 ≠ w.heap.size + 1 := by omega
  clear hV0 BE BL BS BC
  have kL0 : V0.cell? ⟨w.heap.size, 0, none⟩ = some (.slice A n c) := HL.out.cell 0
  have kS0 : V0.cell? ⟨w.heap.size + 1, 0, none⟩ = some (.int .i64 f) := HS.out.cell 0
  have kS1 : V0.cell? ⟨w.heap.size + 1, 1, none⟩ = some (.int .i64 tt) := HS.out.cell 1
  have kC0 : V0.cell? ⟨w.heap.size + 1 + 1, 0, none⟩ = some (.int .i64 0) := HC.out.cell 0
  have kC1 : V0.cell? ⟨w.heap.size + 1 + 1, 1, none⟩ = some (.int .i64 0) := HC.out.cell 1
  have kC2 : V0.cell? ⟨w.heap.size + 1 + 1, 2, none⟩ = some (.int .i64 0) := HC.out.cell 2
  have hw : IntKind.i64.wrap ((r : Int) - 1) = (r : Int) - 1 := IntWalk.i64_in _ (by omega)
  refine (KS.out w.heap.size (w.heap.size + 1) V0 (HR.out.kept EE.out) HL.out HS.out).mono ?_
  rintro e v1 ⟨rfl, hb⟩
  clear kL0 kS0 kS1 kC0 kC1 kC2
  have HL := Lib.hid (Blk.next (w := V0) HL.out hb)
  have HS := Lib.hid (Blk.next (w := V0) HS.out hb)
  have HC := Lib.hid (Blk.next (w := V0) HC.out hb)
  have EE := Lib.hid (EE.out.trans (hb.mono EE.out.size))
  clear hb
  have kL0 : v1.cell? ⟨w.heap.size, 0, none⟩ = some (.slice A n c) := HL.out.cell 0
  have kS0 : v1.cell? ⟨w.heap.size + 1, 0, none⟩ = some (.int .i64 f) := HS.out.cell 0
  have kS1 : v1.cell? ⟨w.heap.size + 1, 1, none⟩ = some (.int .i64 tt) := HS.out.cell 1
  have kC0 : v1.cell? ⟨w.heap.size + 1 + 1, 0, none⟩ = some (.int .i64 0) := HC.out.cell 0
  have kC1 : v1.cell? ⟨w.heap.size + 1 + 1, 1, none⟩ = some (.int .i64 0) := HC.out.cell 1
  have kC2 : v1.cell? ⟨w.heap.size + 1 + 1, 2, none⟩ = some (.int .i64 0) := HC.out.cell 2
  have hpu : partL (upL T P D O n) T n f tt (r - 1) = 0 := by have := part_start (f := (upL T P D O n)) (b := tt) (a := f) HRS.out (up00 T P D O n); rwa [HRR.out] at this
  have hpd : partL (dnL T P D O n) T n f tt (r - 1) = 0 := by have := part_start (f := (dnL T P D O n)) (b := tt) (a := f) HRS.out (dn00 T P D O n); rwa [HRR.out] at this
  have hpo : partL (doL T O n) T n f tt (r - 1) = 0 := by have := part_start (f := (doL T O n)) (b := tt) (a := f) HRS.out (do00 T O n); rwa [HRR.out] at this
  have HPU0 := Lib.hid hpu; have HPD0 := Lib.hid hpd; have HPO0 := Lib.hid hpo; clear hpu hpd hpo
  go_wp2_with fail
  clear kL0 kS0 kS1 kC0 kC1 kC2
  all_goals
    go_loopw [9] (fun i wr => ∃ k : Nat, k ≤ n ∧ i = .int .i64 k ∧ Blk wr (w.heap.size + 1 + 1) 49 #[.int .i64 (partL (upL T P D O n) T n f tt k), .int .i64 (partL (dnL T P D O n) T n f tt k), .int .i64 (partL (doL T O n) T n f tt k)] ∧ Blk wr w.heap.size 22 #[.slice A n c] ∧ Blk wr (w.heap.size + 1) 24 #[.int .i64 f, .int .i64 tt] ∧ Below w.heap.size w wr) (fun i _ => n - (intOf i).toNat)
    case atStart => exact ⟨r - 1, by omega, congrArg (Value.int .i64) (by omega), by rw [HPU0.out, HPD0.out, HPO0.out]; exact HC.out, HL.out, HS.out, EE.out⟩
    case round =>
      obtain ⟨k, hk, rfl, hC, hL, hS, hB⟩ := hrel
      have HC := Lib.hid hC; have HL := Lib.hid hL; have HS := Lib.hid hS; have EE := Lib.hid hB
      clear hC hL hS hB
      have bpu := part_bd (f := (upL T P D O n)) (T := T) (n := n) (i := k) (a := f) (b := tt) (up01 T P D O n) s4
      obtain ⟨pu, hpu⟩ : ∃ q, partL (upL T P D O n) T n f tt k = q := ⟨_, rfl⟩
      have Hpu := Lib.hid hpu
      have bpd := part_bd (f := (dnL T P D O n)) (T := T) (n := n) (i := k) (a := f) (b := tt) (dn01 T P D O n) s4
      obtain ⟨pd, hpd⟩ : ∃ q, partL (dnL T P D O n) T n f tt k = q := ⟨_, rfl⟩
      have Hpd := Lib.hid hpd
      have bpo := part_bd (f := (doL T O n)) (T := T) (n := n) (i := k) (a := f) (b := tt) (do01 T O n) s4
      obtain ⟨po, hpo⟩ : ∃ q, partL (doL T O n) T n f tt k = q := ⟨_, rfl⟩
      have Hpo := Lib.hid hpo
      rw [hpu, hpd, hpo] at HC
      rw [hpu] at bpu; rw [hpd] at bpd; rw [hpo] at bpo
      clear hpu hpd hpo
      by_cases h : k < n
      · obtain ⟨f1, f2, f3, f4, f5, f6⟩ := HF.out.2.2 k h
        obtain ⟨b, o, rfl, hbl, hcell⟩ := rdL_row HR.out (by omega)
        obtain ⟨c0, c1, c2, c3⟩ := hcell k h
        have hA := (at4 c0 c1 c2 c3).next EE.out
        have HA := Lib.hid hA; have HCELL := Lib.hid hcell
        clear c0 c1 c2 c3 hcell hA
        obtain ⟨tk, htk⟩ : ∃ q, T k = q := ⟨_, rfl⟩
        obtain ⟨pk, hpk⟩ : ∃ q, P k = q := ⟨_, rfl⟩
        obtain ⟨dk, hdk⟩ : ∃ q, D k = q := ⟨_, rfl⟩
        obtain ⟨ok, hok⟩ : ∃ q, O k = q := ⟨_, rfl⟩
        have HTK := Lib.hid htk; have HPK := Lib.hid hpk; have HDK := Lib.hid hdk; have HOK := Lib.hid hok
        rw [htk, hpk, hdk, hok] at HA
        rw [htk] at f5 f6; rw [hpk] at f3 f4; rw [hdk] at f1 f2
        clear htk hpk hdk hok
        have dk0 : decide ((k : Int) < (n : Int)) = true := decide_eq_true (by omega)
        by_cases h1 : tk < tt
        · have d1 : decide (tk < tt) = true := decide_eq_true h1
          have HH1 := Lib.hid h1; clear h1
          obtain ⟨a, ha⟩ : ∃ a, max tk f = a := ⟨_, rfl⟩
          have ha2 : (if tk < f then f else tk) = a := by rw [← ha]; omega
          have ha3 : tk ≤ a ∧ f ≤ a ∧ (a = tk ∨ a = f) := by omega
          have HAM := Lib.hid ha; clear ha
          have kL0 : wr.cell? ⟨w.heap.size, 0, none⟩ = some (.slice (some ⟨b, o, none⟩) n c) := HL.out.cell 0
          have kS0 : wr.cell? ⟨w.heap.size + 1, 0, none⟩ = some (.int .i64 f) := HS.out.cell 0
          have kS1 : wr.cell? ⟨w.heap.size + 1, 1, none⟩ = some (.int .i64 tt) := HS.out.cell 1
          have kC0 : wr.cell? ⟨w.heap.size + 1 + 1, 0, none⟩ = some (.int .i64 pu) := HC.out.cell 0
          have kC1 : wr.cell? ⟨w.heap.size + 1 + 1, 1, none⟩ = some (.int .i64 pd) := HC.out.cell 1
          have kC2 : wr.cell? ⟨w.heap.size + 1 + 1, 2, none⟩ = some (.int .i64 po) := HC.out.cell 2
          have kA0 : wr.cell? ⟨b, o + k * 4, none⟩ = some (.int .i64 tk) := HA.out 0 _ rfl
          have kA1 : wr.cell? ⟨b, o + k * 4 + 1, none⟩ = some (.int .i64 pk) := HA.out 1 _ rfl
          have kA2 : wr.cell? ⟨b, o + k * 4 + 2, none⟩ = some (.int .i64 dk) := HA.out 2 _ rfl
          have kA3 : wr.cell? ⟨b, o + k * 4 + 3, none⟩ = some (.bool ok) := HA.out 3 _ rfl
          go_wp2_with fail
          have sK : ∀ X, Blk X (w.heap.size) 22 #[.slice (some ⟨b, o, none⟩) n c] → Blk X (w.heap.size + 1) 24 #[.int .i64 f, .int .i64 tt] → Blk X (w.heap.size + 1 + 1) 49 #[.int .i64 pu, .int .i64 pd, .int .i64 po] → At X b (o + k * 4) #[.int .i64 tk, .int .i64 pk, .int .i64 dk, .bool ok] → (fun X => X.cell? ⟨w.heap.size, 0, none⟩ = some (.slice (some ⟨b, o, none⟩) n c) ∧ X.cell? ⟨w.heap.size + 1, 0, none⟩ = some (.int .i64 f) ∧ X.cell? ⟨w.heap.size + 1, 1, none⟩ = some (.int .i64 tt) ∧ X.cell? ⟨w.heap.size + 1 + 1, 0, none⟩ = some (.int .i64 pu) ∧ X.cell? ⟨w.heap.size + 1 + 1, 1, none⟩ = some (.int .i64 pd) ∧ X.cell? ⟨w.heap.size + 1 + 1, 2, none⟩ = some (.int .i64 po) ∧ X.cell? ⟨b, o + k * 4, none⟩ = some (.int .i64 tk) ∧ X.cell? ⟨b, o + k * 4 + 1, none⟩ = some (.int .i64 pk) ∧ X.cell? ⟨b, o + k * 4 + 2, none⟩ = some (.int .i64 dk) ∧ X.cell? ⟨b, o + k * 4 + 3, none⟩ = some (.bool ok)) X := fun X hL hS hC hA => ⟨hL.cell 0, hS.cell 0, hS.cell 1, hC.cell 0, hC.cell 1, hC.cell 2, hA 0 _ rfl, hA 1 _ rfl, hA 2 _ rfl, hA 3 _ rfl⟩
          have LL0 := Lib.hid (HL.out.drew)
          have LS0 := Lib.hid (HS.out.drew)
          have LC0 := Lib.hid (HC.out.drew)
          have LA0 := Lib.hid (HA.out.drew)
          have E0 := Lib.hid (EE.out.drew)
          clear kL0 kS0 kS1 kC0 kC1 kC2 kA0 kA1 kA2 kA3
          refine wp_region_held_drew (S := (fun X => X.cell? ⟨w.heap.size, 0, none⟩ = some (.slice (some ⟨b, o, none⟩) n c) ∧ X.cell? ⟨w.heap.size + 1, 0, none⟩ = some (.int .i64 f) ∧ X.cell? ⟨w.heap.size + 1, 1, none⟩ = some (.int .i64 tt) ∧ X.cell? ⟨w.heap.size + 1 + 1, 0, none⟩ = some (.int .i64 pu) ∧ X.cell? ⟨w.heap.size + 1 + 1, 1, none⟩ = some (.int .i64 pd) ∧ X.cell? ⟨w.heap.size + 1 + 1, 2, none⟩ = some (.int .i64 po) ∧ X.cell? ⟨b, o + k * 4, none⟩ = some (.int .i64 tk) ∧ X.cell? ⟨b, o + k * 4 + 1, none⟩ = some (.int .i64 pk) ∧ X.cell? ⟨b, o + k * 4 + 2, none⟩ = some (.int .i64 dk) ∧ X.cell? ⟨b, o + k * 4 + 3, none⟩ = some (.bool ok))) (by kernel_rfl) (sK _ LL0.out LS0.out LC0.out LA0.out) (fun hHeld => ?_)
          clear hHeld
          refine wpAnyH_take (i := 0) (v := ?_) rfl (by kernel_rfl) (by kernel_rfl) (by kernel_rfl) (fun _ _ _ h => h) (Or.inl ⟨by rfl, ?_⟩) (sK _ LL0.out LS0.out LC0.out LA0.out) ?_
          rotate_left
          · (intro wS hSw; (try dsimp only at hSw); go_simp; try with_reducible rfl)
          simp only [Act.put, List.getElem_toArray, List.getElem_cons_zero, List.getElem_cons_succ, List.setIfInBounds_toArray, List.set_cons_zero, List.set_cons_succ]
          refine wpAnyH_take (i := 1) (v := ?_) rfl (by kernel_rfl) (by kernel_rfl) (by kernel_rfl) (fun _ _ _ h => h) (Or.inl ⟨by rfl, ?_⟩) (sK _ LL0.out LS0.out LC0.out LA0.out) ?_
          rotate_left
          · (intro wS hSw; (try dsimp only at hSw); go_simp; try with_reducible rfl)
          simp only [Act.put, List.getElem_toArray, List.getElem_cons_zero, List.getElem_cons_succ, List.setIfInBounds_toArray, List.set_cons_zero, List.set_cons_succ]
          refine wpAnyH_take (i := 2) (v := ?_) rfl (by kernel_rfl) (by kernel_rfl) (by kernel_rfl) (fun _ _ _ h => h) (Or.inl ⟨by rfl, ?_⟩) (sK _ LL0.out LS0.out LC0.out LA0.out) ?_
          rotate_left
          · (intro wS hSw; (try dsimp only at hSw); go_simp; try with_reducible rfl)
          simp only [Act.put, List.getElem_toArray, List.getElem_cons_zero, List.getElem_cons_succ, List.setIfInBounds_toArray, List.set_cons_zero, List.set_cons_succ]
          refine wpAnyH_take (i := 3) (v := ?_) rfl (by kernel_rfl) (by kernel_rfl) (by kernel_rfl) (fun _ _ _ h => h) (Or.inl ⟨by rfl, ?_⟩) (sK _ LL0.out LS0.out LC0.out LA0.out) ?_
          rotate_left
          · (intro wS hSw; (try dsimp only at hSw); go_simp; try with_reducible rfl)
          simp only [Act.put, List.getElem_toArray, List.getElem_cons_zero, List.getElem_cons_succ, List.setIfInBounds_toArray, List.set_cons_zero, List.set_cons_succ]
          refine wpAnyH_take (i := 4) (v := ?_) rfl (by kernel_rfl) (by kernel_rfl) (by kernel_rfl) (fun _ _ _ h => h) (Or.inl ⟨by rfl, ?_⟩) (sK _ LL0.out LS0.out LC0.out LA0.out) ?_
          rotate_left
          · (intro wS hSw; (try dsimp only at hSw); go_simp; try with_reducible rfl)
          simp only [Act.put, List.getElem_toArray, List.getElem_cons_zero, List.getElem_cons_succ, List.setIfInBounds_toArray, List.set_cons_zero, List.set_cons_succ]
          refine wpAnyH_take (i := 5) (v := ?_) rfl (by kernel_rfl) (by kernel_rfl) (by kernel_rfl) (fun _ _ _ h => h) (Or.inl ⟨by rfl, ?_⟩) (sK _ LL0.out LS0.out LC0.out LA0.out) ?_
          rotate_left
          · (intro wS hSw; (try dsimp only at hSw); go_simp; try with_reducible rfl)
          simp only [Act.put, List.getElem_toArray, List.getElem_cons_zero, List.getElem_cons_succ, List.setIfInBounds_toArray, List.set_cons_zero, List.set_cons_succ]
          refine wpAnyH_take (i := 6) (v := ?_) rfl (by kernel_rfl) (by kernel_rfl) (by kernel_rfl) (fun _ _ _ h => h) (Or.inl ⟨by rfl, ?_⟩) (sK _ LL0.out LS0.out LC0.out LA0.out) ?_
          rotate_left
          · (intro wS hSw; (try dsimp only at hSw); go_simp; try with_reducible rfl)
          simp only [Act.put, List.getElem_toArray, List.getElem_cons_zero, List.getElem_cons_succ, List.setIfInBounds_toArray, List.set_cons_zero, List.set_cons_succ]
          refine wpAnyH_take (i := 7) (v := ?_) rfl (by kernel_rfl) (by kernel_rfl) (by kernel_rfl) (fun _ _ _ h => h) (Or.inl ⟨by rfl, ?_⟩) (sK _ LL0.out LS0.out LC0.out LA0.out) ?_
          rotate_left
          · (intro wS hSw; (try dsimp only at hSw); go_simp; try with_reducible rfl)
          simp only [Act.put, List.getElem_toArray, List.getElem_cons_zero, List.getElem_cons_succ, List.setIfInBounds_toArray, List.set_cons_zero, List.set_cons_succ]
          refine wpAnyH_take (i := 8) (v := ?_) rfl (by kernel_rfl) (by kernel_rfl) (by kernel_rfl) (fun _ _ _ h => h) (Or.inl ⟨by rfl, ?_⟩) (sK _ LL0.out LS0.out LC0.out LA0.out) ?_
          rotate_left
          · (intro wS hSw; (try dsimp only at hSw); go_simp; try with_reducible rfl)
          simp only [Act.put, List.getElem_toArray, List.getElem_cons_zero, List.getElem_cons_succ, List.setIfInBounds_toArray, List.set_cons_zero, List.set_cons_succ]
          refine wpAnyH_take (i := 9) (v := ?_) rfl (by kernel_rfl) (by kernel_rfl) (by kernel_rfl) (fun _ _ _ h => h) (Or.inl ⟨by rfl, ?_⟩) (sK _ LL0.out LS0.out LC0.out LA0.out) ?_
          rotate_left
          · (intro wS hSw; (try dsimp only at hSw); go_simp; try with_reducible rfl)
          simp only [Act.put, List.getElem_toArray, List.getElem_cons_zero, List.getElem_cons_succ, List.setIfInBounds_toArray, List.set_cons_zero, List.set_cons_succ]
          refine wpAnyH_take (i := 10) (v := ?_) rfl (by kernel_rfl) (by kernel_rfl) (by kernel_rfl) (fun _ _ _ h => h) (Or.inl ⟨by rfl, ?_⟩) (sK _ LL0.out LS0.out LC0.out LA0.out) ?_
          rotate_left
          · (intro wS hSw; (try dsimp only at hSw); go_simp; try with_reducible rfl)
          simp only [Act.put, List.getElem_toArray, List.getElem_cons_zero, List.getElem_cons_succ, List.setIfInBounds_toArray, List.set_cons_zero, List.set_cons_succ]
          refine wpAnyH_take (i := 11) (v := ?_) rfl (by kernel_rfl) (by kernel_rfl) (by kernel_rfl) (fun _ _ _ h => h) (Or.inl ⟨by rfl, ?_⟩) (sK _ LL0.out LS0.out LC0.out LA0.out) ?_
          rotate_left
          · (intro wS hSw; (try dsimp only at hSw); go_simp; try with_reducible rfl)
          simp only [Act.put, List.getElem_toArray, List.getElem_cons_zero, List.getElem_cons_succ, List.setIfInBounds_toArray, List.set_cons_zero, List.set_cons_succ]
          refine wpAnyH_take (i := 12) (v := ?_) rfl (by kernel_rfl) (by kernel_rfl) (by kernel_rfl) (fun _ _ _ h => h) (Or.inl ⟨by rfl, ?_⟩) (sK _ LL0.out LS0.out LC0.out LA0.out) ?_
          rotate_left
          · (intro wS hSw; (try dsimp only at hSw); go_simp; try with_reducible rfl)
          simp only [Act.put, List.getElem_toArray, List.getElem_cons_zero, List.getElem_cons_succ, List.setIfInBounds_toArray, List.set_cons_zero, List.set_cons_succ]
          refine wpAnyH_take (i := 13) (v := ?_) rfl (by kernel_rfl) (by kernel_rfl) (by kernel_rfl) (fun _ _ _ h => h) (Or.inl ⟨by rfl, ?_⟩) (sK _ LL0.out LS0.out LC0.out LA0.out) ?_
          rotate_left
          · (intro wS hSw; (try dsimp only at hSw); go_simp; try with_reducible rfl)
          simp only [Act.put, List.getElem_toArray, List.getElem_cons_zero, List.getElem_cons_succ, List.setIfInBounds_toArray, List.set_cons_zero, List.set_cons_succ]
          refine wpAnyH_done (by kernel_rfl) ?_ _
          have HL := LL0
          have HS := LS0
          have HC := LC0
          have HA := LA0
          have EE := E0
          have kL0 : wr.drew.cell? ⟨w.heap.size, 0, none⟩ = some (.slice (some ⟨b, o, none⟩) n c) := HL.out.cell 0
          have kS0 : wr.drew.cell? ⟨w.heap.size + 1, 0, none⟩ = some (.int .i64 f) := HS.out.cell 0
          have kS1 : wr.drew.cell? ⟨w.heap.size + 1, 1, none⟩ = some (.int .i64 tt) := HS.out.cell 1
          have kC0 : wr.drew.cell? ⟨w.heap.size + 1 + 1, 0, none⟩ = some (.int .i64 pu) := HC.out.cell 0
          have kC1 : wr.drew.cell? ⟨w.heap.size + 1 + 1, 1, none⟩ = some (.int .i64 pd) := HC.out.cell 1
          have kC2 : wr.drew.cell? ⟨w.heap.size + 1 + 1, 2, none⟩ = some (.int .i64 po) := HC.out.cell 2
          have kA0 : wr.drew.cell? ⟨b, o + k * 4, none⟩ = some (.int .i64 tk) := HA.out 0 _ rfl
          have kA1 : wr.drew.cell? ⟨b, o + k * 4 + 1, none⟩ = some (.int .i64 pk) := HA.out 1 _ rfl
          have kA2 : wr.drew.cell? ⟨b, o + k * 4 + 2, none⟩ = some (.int .i64 dk) := HA.out 2 _ rfl
          have kA3 : wr.drew.cell? ⟨b, o + k * 4 + 3, none⟩ = some (.bool ok) := HA.out 3 _ rfl
          go_wp2_with fail
          have sK : ∀ X, Blk X (w.heap.size) 22 #[.slice (some ⟨b, o, none⟩) n c] → Blk X (w.heap.size + 1) 24 #[.int .i64 f, .int .i64 tt] → Blk X (w.heap.size + 1 + 1) 49 #[.int .i64 pu, .int .i64 pd, .int .i64 po] → At X b (o + k * 4) #[.int .i64 tk, .int .i64 pk, .int .i64 dk, .bool ok] → (fun X => X.cell? ⟨w.heap.size, 0, none⟩ = some (.slice (some ⟨b, o, none⟩) n c) ∧ X.cell? ⟨w.heap.size + 1, 0, none⟩ = some (.int .i64 f) ∧ X.cell? ⟨w.heap.size + 1, 1, none⟩ = some (.int .i64 tt) ∧ X.cell? ⟨w.heap.size + 1 + 1, 0, none⟩ = some (.int .i64 pu) ∧ X.cell? ⟨w.heap.size + 1 + 1, 1, none⟩ = some (.int .i64 pd) ∧ X.cell? ⟨w.heap.size + 1 + 1, 2, none⟩ = some (.int .i64 po) ∧ X.cell? ⟨b, o + k * 4, none⟩ = some (.int .i64 tk) ∧ X.cell? ⟨b, o + k * 4 + 1, none⟩ = some (.int .i64 pk) ∧ X.cell? ⟨b, o + k * 4 + 2, none⟩ = some (.int .i64 dk) ∧ X.cell? ⟨b, o + k * 4 + 3, none⟩ = some (.bool ok)) X := fun X hL hS hC hA => ⟨hL.cell 0, hS.cell 0, hS.cell 1, hC.cell 0, hC.cell 1, hC.cell 2, hA 0 _ rfl, hA 1 _ rfl, hA 2 _ rfl, hA 3 _ rfl⟩
          have LL0 := Lib.hid (HL.out.drew)
          have LS0 := Lib.hid (HS.out.drew)
          have LC0 := Lib.hid (HC.out.drew)
          have LA0 := Lib.hid (HA.out.drew)
          have E0 := Lib.hid (EE.out.drew)
          clear kL0 kS0 kS1 kC0 kC1 kC2 kA0 kA1 kA2 kA3
          refine wp_region_held_drew (S := (fun X => X.cell? ⟨w.heap.size, 0, none⟩ = some (.slice (some ⟨b, o, none⟩) n c) ∧ X.cell? ⟨w.heap.size + 1, 0, none⟩ = some (.int .i64 f) ∧ X.cell? ⟨w.heap.size + 1, 1, none⟩ = some (.int .i64 tt) ∧ X.cell? ⟨w.heap.size + 1 + 1, 0, none⟩ = some (.int .i64 pu) ∧ X.cell? ⟨w.heap.size + 1 + 1, 1, none⟩ = some (.int .i64 pd) ∧ X.cell? ⟨w.heap.size + 1 + 1, 2, none⟩ = some (.int .i64 po) ∧ X.cell? ⟨b, o + k * 4, none⟩ = some (.int .i64 tk) ∧ X.cell? ⟨b, o + k * 4 + 1, none⟩ = some (.int .i64 pk) ∧ X.cell? ⟨b, o + k * 4 + 2, none⟩ = some (.int .i64 dk) ∧ X.cell? ⟨b, o + k * 4 + 3, none⟩ = some (.bool ok))) (by kernel_rfl) (sK _ LL0.out LS0.out LC0.out LA0.out) (fun hHeld => ?_)
          clear hHeld
          refine wpAnyH_take (i := 0) (v := ?_) rfl (by kernel_rfl) (by kernel_rfl) (by kernel_rfl) (fun _ _ _ h => h) (Or.inl ⟨by rfl, ?_⟩) (sK _ LL0.out LS0.out LC0.out LA0.out) ?_
          rotate_left
          · (intro wS hSw; (try dsimp only at hSw); go_simp; try with_reducible rfl)
          simp only [Act.put, List.getElem_toArray, List.getElem_cons_zero, List.getElem_cons_succ, List.setIfInBounds_toArray, List.set_cons_zero, List.set_cons_succ]
          refine wpAnyH_take (i := 1) (v := ?_) rfl (by kernel_rfl) (by kernel_rfl) (by kernel_rfl) (fun _ _ _ h => h) (Or.inl ⟨by rfl, ?_⟩) (sK _ LL0.out LS0.out LC0.out LA0.out) ?_
          rotate_left
          · (intro wS hSw; (try dsimp only at hSw); go_simp; try with_reducible rfl)
          simp only [Act.put, List.getElem_toArray, List.getElem_cons_zero, List.getElem_cons_succ, List.setIfInBounds_toArray, List.set_cons_zero, List.set_cons_succ]
          refine wpAnyH_take (i := 2) (v := ?_) rfl (by kernel_rfl) (by kernel_rfl) (by kernel_rfl) (fun _ _ _ h => h) (Or.inl ⟨by rfl, ?_⟩) (sK _ LL0.out LS0.out LC0.out LA0.out) ?_
          rotate_left
          · (intro wS hSw; (try dsimp only at hSw); go_simp; try with_reducible rfl)
          simp only [Act.put, List.getElem_toArray, List.getElem_cons_zero, List.getElem_cons_succ, List.setIfInBounds_toArray, List.set_cons_zero, List.set_cons_succ]
          refine wpAnyH_take (i := 3) (v := ?_) rfl (by kernel_rfl) (by kernel_rfl) (by kernel_rfl) (fun _ _ _ h => h) (Or.inl ⟨by rfl, ?_⟩) (sK _ LL0.out LS0.out LC0.out LA0.out) ?_
          rotate_left
          · (intro wS hSw; (try dsimp only at hSw); go_simp; try with_reducible rfl)
          simp only [Act.put, List.getElem_toArray, List.getElem_cons_zero, List.getElem_cons_succ, List.setIfInBounds_toArray, List.set_cons_zero, List.set_cons_succ]
          refine wpAnyH_take (i := 4) (v := ?_) rfl (by kernel_rfl) (by kernel_rfl) (by kernel_rfl) (fun _ _ _ h => h) (Or.inl ⟨by rfl, ?_⟩) (sK _ LL0.out LS0.out LC0.out LA0.out) ?_
          rotate_left
          · (intro wS hSw; (try dsimp only at hSw); go_simp; try with_reducible rfl)
          simp only [Act.put, List.getElem_toArray, List.getElem_cons_zero, List.getElem_cons_succ, List.setIfInBounds_toArray, List.set_cons_zero, List.set_cons_succ]
          refine wpAnyH_take (i := 5) (v := ?_) rfl (by kernel_rfl) (by kernel_rfl) (by kernel_rfl) (fun _ _ _ h => h) (Or.inl ⟨by rfl, ?_⟩) (sK _ LL0.out LS0.out LC0.out LA0.out) ?_
          rotate_left
          · (intro wS hSw; (try dsimp only at hSw); go_simp; try with_reducible rfl)
          simp only [Act.put, List.getElem_toArray, List.getElem_cons_zero, List.getElem_cons_succ, List.setIfInBounds_toArray, List.set_cons_zero, List.set_cons_succ]
          refine wpAnyH_take (i := 6) (v := ?_) rfl (by kernel_rfl) (by kernel_rfl) (by kernel_rfl) (fun _ _ _ h => h) (Or.inl ⟨by rfl, ?_⟩) (sK _ LL0.out LS0.out LC0.out LA0.out) ?_
          rotate_left
          · (intro wS hSw; (try dsimp only at hSw); go_simp; try with_reducible rfl)
          simp only [Act.put, List.getElem_toArray, List.getElem_cons_zero, List.getElem_cons_succ, List.setIfInBounds_toArray, List.set_cons_zero, List.set_cons_succ]
          refine wpAnyH_take (i := 7) (v := ?_) rfl (by kernel_rfl) (by kernel_rfl) (by kernel_rfl) (fun _ _ _ h => h) (Or.inl ⟨by rfl, ?_⟩) (sK _ LL0.out LS0.out LC0.out LA0.out) ?_
          rotate_left
          · (intro wS hSw; (try dsimp only at hSw); go_simp; try with_reducible rfl)
          simp only [Act.put, List.getElem_toArray, List.getElem_cons_zero, List.getElem_cons_succ, List.setIfInBounds_toArray, List.set_cons_zero, List.set_cons_succ]
          refine wpAnyH_take (i := 8) (v := ?_) rfl (by kernel_rfl) (by kernel_rfl) (by kernel_rfl) (fun _ _ _ h => h) (Or.inl ⟨by rfl, ?_⟩) (sK _ LL0.out LS0.out LC0.out LA0.out) ?_
          rotate_left
          · (intro wS hSw; (try dsimp only at hSw); go_simp; try with_reducible rfl)
          simp only [Act.put, List.getElem_toArray, List.getElem_cons_zero, List.getElem_cons_succ, List.setIfInBounds_toArray, List.set_cons_zero, List.set_cons_succ]
          refine wpAnyH_take (i := 9) (v := ?_) rfl (by kernel_rfl) (by kernel_rfl) (by kernel_rfl) (fun _ _ _ h => h) (Or.inl ⟨by rfl, ?_⟩) (sK _ LL0.out LS0.out LC0.out LA0.out) ?_
          rotate_left
          · (intro wS hSw; (try dsimp only at hSw); go_simp; try with_reducible rfl)
          simp only [Act.put, List.getElem_toArray, List.getElem_cons_zero, List.getElem_cons_succ, List.setIfInBounds_toArray, List.set_cons_zero, List.set_cons_succ]
          refine wpAnyH_take (i := 10) (v := ?_) rfl (by kernel_rfl) (by kernel_rfl) (by kernel_rfl) (fun _ _ _ h => h) (Or.inl ⟨by rfl, ?_⟩) (sK _ LL0.out LS0.out LC0.out LA0.out) ?_
          rotate_left
          · (intro wS hSw; (try dsimp only at hSw); go_simp; try with_reducible rfl)
          simp only [Act.put, List.getElem_toArray, List.getElem_cons_zero, List.getElem_cons_succ, List.setIfInBounds_toArray, List.set_cons_zero, List.set_cons_succ]
          refine wpAnyH_take (i := 11) (v := ?_) rfl (by kernel_rfl) (by kernel_rfl) (by kernel_rfl) (fun _ _ _ h => h) (Or.inl ⟨by rfl, ?_⟩) (sK _ LL0.out LS0.out LC0.out LA0.out) ?_
          rotate_left
          · (intro wS hSw; (try dsimp only at hSw); go_simp; try with_reducible rfl)
          simp only [Act.put, List.getElem_toArray, List.getElem_cons_zero, List.getElem_cons_succ, List.setIfInBounds_toArray, List.set_cons_zero, List.set_cons_succ]
          refine wpAnyH_done (by kernel_rfl) ?_ _
          have HL := LL0
          have HS := LS0
          have HC := LC0
          have HA := LA0
          have EE := E0
          have kL0 : wr.drew.drew.cell? ⟨w.heap.size, 0, none⟩ = some (.slice (some ⟨b, o, none⟩) n c) := HL.out.cell 0
          have kS0 : wr.drew.drew.cell? ⟨w.heap.size + 1, 0, none⟩ = some (.int .i64 f) := HS.out.cell 0
          have kS1 : wr.drew.drew.cell? ⟨w.heap.size + 1, 1, none⟩ = some (.int .i64 tt) := HS.out.cell 1
          have kC0 : wr.drew.drew.cell? ⟨w.heap.size + 1 + 1, 0, none⟩ = some (.int .i64 pu) := HC.out.cell 0
          have kC1 : wr.drew.drew.cell? ⟨w.heap.size + 1 + 1, 1, none⟩ = some (.int .i64 pd) := HC.out.cell 1
          have kC2 : wr.drew.drew.cell? ⟨w.heap.size + 1 + 1, 2, none⟩ = some (.int .i64 po) := HC.out.cell 2
          have kA0 : wr.drew.drew.cell? ⟨b, o + k * 4, none⟩ = some (.int .i64 tk) := HA.out 0 _ rfl
          have kA1 : wr.drew.drew.cell? ⟨b, o + k * 4 + 1, none⟩ = some (.int .i64 pk) := HA.out 1 _ rfl
          have kA2 : wr.drew.drew.cell? ⟨b, o + k * 4 + 2, none⟩ = some (.int .i64 dk) := HA.out 2 _ rfl
          have kA3 : wr.drew.drew.cell? ⟨b, o + k * 4 + 3, none⟩ = some (.bool ok) := HA.out 3 _ rfl
          clear kL0 kS0 kS1 kC0 kC1 kC2 kA0 kA1 kA2 kA3
          have GL : Blk wr.drew.drew (w.heap.size) 22 #[.slice (some ⟨b, o, none⟩) n c] := HL.out
          have GS : Blk wr.drew.drew (w.heap.size + 1) 24 #[.int .i64 f, .int .i64 tt] := HS.out
          have GC : Blk wr.drew.drew (w.heap.size + 1 + 1) 49 #[.int .i64 pu, .int .i64 pd, .int .i64 po] := HC.out
          have GA : At wr.drew.drew b (o + k * 4) #[.int .i64 tk, .int .i64 pk, .int .i64 dk, .bool ok] := HA.out
          have GE : Below w.heap.size w wr.drew.drew := EE.out
          obtain ⟨v21, hv21⟩ : ∃ V, wr.drew.drew = V := ⟨_, rfl⟩
          rw [hv21] at GL GS GC GA GE ⊢
          have HL := Lib.hid GL
          have HS := Lib.hid GS
          have HC := Lib.hid GC
          have HA := Lib.hid GA
          have EE := Lib.hid GE
          clear hv21 GL GS GC GA GE
          have kL0 : v21.cell? ⟨w.heap.size, 0, none⟩ = some (.slice (some ⟨b, o, none⟩) n c) := HL.out.cell 0
          have kS0 : v21.cell? ⟨w.heap.size + 1, 0, none⟩ = some (.int .i64 f) := HS.out.cell 0
          have kS1 : v21.cell? ⟨w.heap.size + 1, 1, none⟩ = some (.int .i64 tt) := HS.out.cell 1
          have kC0 : v21.cell? ⟨w.heap.size + 1 + 1, 0, none⟩ = some (.int .i64 pu) := HC.out.cell 0
          have kC1 : v21.cell? ⟨w.heap.size + 1 + 1, 1, none⟩ = some (.int .i64 pd) := HC.out.cell 1
          have kC2 : v21.cell? ⟨w.heap.size + 1 + 1, 2, none⟩ = some (.int .i64 po) := HC.out.cell 2
          have kA0 : v21.cell? ⟨b, o + k * 4, none⟩ = some (.int .i64 tk) := HA.out 0 _ rfl
          have kA1 : v21.cell? ⟨b, o + k * 4 + 1, none⟩ = some (.int .i64 pk) := HA.out 1 _ rfl
          have kA2 : v21.cell? ⟨b, o + k * 4 + 2, none⟩ = some (.int .i64 dk) := HA.out 2 _ rfl
          have kA3 : v21.cell? ⟨b, o + k * 4 + 3, none⟩ = some (.bool ok) := HA.out 3 _ rfl
          clear kL0 kS0 kS1 kC0 kC1 kC2 kA0 kA1 kA2 kA3
          by_cases h2 : k + 1 < n
          · obtain ⟨tn, htn⟩ : ∃ q, T (k + 1) = q := ⟨_, rfl⟩
            have hN := (at1 (HCELL.out (k + 1) h2).1).next EE.out
            rw [htn] at hN
            have HN := Lib.hid hN; clear hN
            have gn := (HF.out.2.2 (k + 1) h2).2.2.2.2
            rw [htn] at gn
            have hk2 : ((k : Int) + 1 < (n : Int)) := by omega
            have hcut : cutL T n tt k = min tt tn := by unfold cutL; rw [if_pos h2, htn]
            clear htn
            by_cases h4 : tn < tt
            · have HCU := Lib.hid (show cutL T n tt k = tn by rw [hcut]; omega); clear hcut
              have HCU2 : tn ≤ tt ∧ tn ≤ f + 300 := by omega
              by_cases h3 : tn ≤ a
              · have SM := fun fn => part_same (f := fn) HRS.out h (by rw [HTK.out]; exact HH1.out) (by rw [HCU.out, HTK.out, HAM.out]; exact h3)
                have e1 := Lib.hid ((SM (upL T P D O n)).trans Hpu.out); have e2 := Lib.hid ((SM (dnL T P D O n)).trans Hpd.out); have e3 := Lib.hid ((SM (doL T O n)).trans Hpo.out)
                clear SM
                have kL0 : v21.cell? ⟨w.heap.size, 0, none⟩ = some (.slice (some ⟨b, o, none⟩) n c) := HL.out.cell 0
                have kS0 : v21.cell? ⟨w.heap.size + 1, 0, none⟩ = some (.int .i64 f) := HS.out.cell 0
                have kS1 : v21.cell? ⟨w.heap.size + 1, 1, none⟩ = some (.int .i64 tt) := HS.out.cell 1
                have kC0 : v21.cell? ⟨w.heap.size + 1 + 1, 0, none⟩ = some (.int .i64 pu) := HC.out.cell 0
                have kC1 : v21.cell? ⟨w.heap.size + 1 + 1, 1, none⟩ = some (.int .i64 pd) := HC.out.cell 1
                have kC2 : v21.cell? ⟨w.heap.size + 1 + 1, 2, none⟩ = some (.int .i64 po) := HC.out.cell 2
                have kA0 : v21.cell? ⟨b, o + k * 4, none⟩ = some (.int .i64 tk) := HA.out 0 _ rfl
                have kA1 : v21.cell? ⟨b, o + k * 4 + 1, none⟩ = some (.int .i64 pk) := HA.out 1 _ rfl
                have kA2 : v21.cell? ⟨b, o + k * 4 + 2, none⟩ = some (.int .i64 dk) := HA.out 2 _ rfl
                have kA3 : v21.cell? ⟨b, o + k * 4 + 3, none⟩ = some (.bool ok) := HA.out 3 _ rfl
                have kN0 : v21.cell? ⟨b, o + (k + 1) * 4, none⟩ = some (.int .i64 tn) := HN.out 0 _ rfl
                go_wp2_with fail
                go_roundw
                case rel => exact ⟨k + 1, by omega, by go_num, by rw [e1.out, e2.out, e3.out]; exact HC.out, HL.out, HS.out, EE.out⟩
                case measure => simp [intOf]; omega
              · have SD := door_step (O := O) HRS.out h (by rw [HTK.out]; exact HH1.out) (a := f) (b := tt) (by rw [HCU.out, HTK.out, HAM.out]; omega)
                rw [HOK.out, Hpo.out, HCU.out, HTK.out, HAM.out] at SD
                cases hok : ok
                · subst hok
                  rw [if_neg (by simp)] at SD
                  have SU := up_step (P := P) (D := D) (O := O) HRS.out h (by rw [HTK.out]; exact HH1.out) (a := f) (b := tt) (by rw [HCU.out, HTK.out, HAM.out]; omega) HOK.out
                  have SN := dn_step (P := P) (D := D) (O := O) HRS.out h (by rw [HTK.out]; exact HH1.out) (a := f) (b := tt) (by rw [HCU.out, HTK.out, HAM.out]; omega) HOK.out
                  rw [Hpu.out, HCU.out, HTK.out, HAM.out, HDK.out] at SU
                  rw [Hpd.out, HCU.out, HTK.out, HAM.out, HDK.out] at SN
                  have KC := Lib.hid (fun w hr => came_any (some ⟨b, o, none⟩) c n T P D O a w hr HF.out (by omega) (by omega))
                  obtain ⟨cm, hcm⟩ : ∃ q, cameL T P D n a = q := ⟨_, rfl⟩
                  rw [hcm] at SU SN KC
                  obtain ⟨pu1, hpu1⟩ : ∃ q, pu + (if 0 < cm then 1 else 0) = q := ⟨_, rfl⟩
                  obtain ⟨pd1, hpd1⟩ : ∃ q, pd + (if cm < 0 then 1 else 0) = q := ⟨_, rfl⟩
                  obtain ⟨kk, hkk⟩ : ∃ q, tn - a - 1 = q := ⟨_, rfl⟩
                  rw [hpu1, hkk] at SU
                  rw [hpd1, hkk] at SN
                  obtain ⟨pu2, hpu2⟩ : ∃ q, pu1 + (if 0 < dk then kk else 0) = q := ⟨_, rfl⟩
                  obtain ⟨pd2, hpd2⟩ : ∃ q, pd1 + (if dk < 0 then kk else 0) = q := ⟨_, rfl⟩
                  rw [hpu2] at SU
                  rw [hpd2] at SN
                  have bu1 : 0 ≤ pu1 ∧ pu1 ≤ 301 := by rw [← hpu1]; split <;> omega
                  have bd1 : 0 ≤ pd1 ∧ pd1 ≤ 301 := by rw [← hpd1]; split <;> omega
                  have bk : 0 ≤ kk ∧ kk ≤ 300 := by omega
                  have SD2 := SD; rw [Int.add_zero] at SD2
                  have e1 := Lib.hid SU; have e2 := Lib.hid SN; have e3 := Lib.hid SD2; clear SU SN SD SD2
                  have w1 : IntKind.i64.wrap (tn - a) = tn - a := IntWalk.i64_in _ (by omega)
                  have w2 : IntKind.i64.wrap (tn - a - 1) = kk := by rw [hkk]; exact IntWalk.i64_in _ (by omega)
                  have KG1 := Lib.hid (fun W hb => goes_any (w.heap.size + 1 + 1) pu pd po cm 1 pu1 pd1 W hb (by omega) (by omega) (by omega) (by omega) (by omega) (by omega) hpu1 hpd1)
                  have KG2 := Lib.hid (fun W hb => goes_any (w.heap.size + 1 + 1) pu1 pd1 po dk kk pu2 pd2 W hb (by omega) (by omega) (by omega) (by omega) (by omega) (by omega) hpu2 hpd2)
                  clear hcm hpu1 hpd1 hkk hpu2 hpd2 bu1 bd1 bk
                  have kL0 : v21.cell? ⟨w.heap.size, 0, none⟩ = some (.slice (some ⟨b, o, none⟩) n c) := HL.out.cell 0
                  have kS0 : v21.cell? ⟨w.heap.size + 1, 0, none⟩ = some (.int .i64 f) := HS.out.cell 0
                  have kS1 : v21.cell? ⟨w.heap.size + 1, 1, none⟩ = some (.int .i64 tt) := HS.out.cell 1
                  have kC0 : v21.cell? ⟨w.heap.size + 1 + 1, 0, none⟩ = some (.int .i64 pu) := HC.out.cell 0
                  have kC1 : v21.cell? ⟨w.heap.size + 1 + 1, 1, none⟩ = some (.int .i64 pd) := HC.out.cell 1
                  have kC2 : v21.cell? ⟨w.heap.size + 1 + 1, 2, none⟩ = some (.int .i64 po) := HC.out.cell 2
                  have kA0 : v21.cell? ⟨b, o + k * 4, none⟩ = some (.int .i64 tk) := HA.out 0 _ rfl
                  have kA1 : v21.cell? ⟨b, o + k * 4 + 1, none⟩ = some (.int .i64 pk) := HA.out 1 _ rfl
                  have kA2 : v21.cell? ⟨b, o + k * 4 + 2, none⟩ = some (.int .i64 dk) := HA.out 2 _ rfl
                  have kA3 : v21.cell? ⟨b, o + k * 4 + 3, none⟩ = some (.bool false) := HA.out 3 _ rfl
                  have kN0 : v21.cell? ⟨b, o + (k + 1) * 4, none⟩ = some (.int .i64 tn) := HN.out 0 _ rfl
                  go_wp2_with fail
                  refine (KC.out _ (HR.out.kept EE.out)).mono ?_
                  rintro e v22 ⟨rfl, hb⟩
                  clear kL0 kS0 kS1 kC0 kC1 kC2 kA0 kA1 kA2 kA3 kN0
                  have HL := Lib.hid (Blk.next (w := v21) HL.out hb)
                  have HS := Lib.hid (Blk.next (w := v21) HS.out hb)
                  have HC := Lib.hid (Blk.next (w := v21) HC.out hb)
                  have HA := Lib.hid (At.next (w := v21) HA.out hb)
                  have HN := Lib.hid (At.next (w := v21) HN.out hb)
                  have EE := Lib.hid (EE.out.trans (hb.mono EE.out.size))
                  clear hb
                  have kL0 : v22.cell? ⟨w.heap.size, 0, none⟩ = some (.slice (some ⟨b, o, none⟩) n c) := HL.out.cell 0
                  have kS0 : v22.cell? ⟨w.heap.size + 1, 0, none⟩ = some (.int .i64 f) := HS.out.cell 0
                  have kS1 : v22.cell? ⟨w.heap.size + 1, 1, none⟩ = some (.int .i64 tt) := HS.out.cell 1
                  have kC0 : v22.cell? ⟨w.heap.size + 1 + 1, 0, none⟩ = some (.int .i64 pu) := HC.out.cell 0
                  have kC1 : v22.cell? ⟨w.heap.size + 1 + 1, 1, none⟩ = some (.int .i64 pd) := HC.out.cell 1
                  have kC2 : v22.cell? ⟨w.heap.size + 1 + 1, 2, none⟩ = some (.int .i64 po) := HC.out.cell 2
                  have kA0 : v22.cell? ⟨b, o + k * 4, none⟩ = some (.int .i64 tk) := HA.out 0 _ rfl
                  have kA1 : v22.cell? ⟨b, o + k * 4 + 1, none⟩ = some (.int .i64 pk) := HA.out 1 _ rfl
                  have kA2 : v22.cell? ⟨b, o + k * 4 + 2, none⟩ = some (.int .i64 dk) := HA.out 2 _ rfl
                  have kA3 : v22.cell? ⟨b, o + k * 4 + 3, none⟩ = some (.bool false) := HA.out 3 _ rfl
                  have kN0 : v22.cell? ⟨b, o + (k + 1) * 4, none⟩ = some (.int .i64 tn) := HN.out 0 _ rfl
                  go_wp2_with fail
                  refine (KG1.out _ HC.out).mono ?_
                  rintro e v23 ⟨rfl, hp⟩
                  clear kL0 kS0 kS1 kC0 kC1 kC2 kA0 kA1 kA2 kA3 kN0
                  have HL := Lib.hid (hp.2.2 _ _ _ (by omega) HL.out)
                  have HS := Lib.hid (hp.2.2 _ _ _ (by omega) HS.out)
                  have HC := Lib.hid hp.1
                  have EE := Lib.hid (EE.out.trans (hp.2.1 w.heap.size (by omega) EE.out.size))
                  clear hp
                  have hA : At v23 b (o + k * 4) #[.int .i64 (T k), .int .i64 (P k), .int .i64 (D k), .bool (O k)] := (at4 (HCELL.out k h).1 (HCELL.out k h).2.1 (HCELL.out k h).2.2.1 (HCELL.out k h).2.2.2).next EE.out
                  rw [HTK.out, HPK.out, HDK.out, HOK.out] at hA
                  have HA := Lib.hid hA; clear hA
                  have kL0 : v23.cell? ⟨w.heap.size, 0, none⟩ = some (.slice (some ⟨b, o, none⟩) n c) := HL.out.cell 0
                  have kS0 : v23.cell? ⟨w.heap.size + 1, 0, none⟩ = some (.int .i64 f) := HS.out.cell 0
                  have kS1 : v23.cell? ⟨w.heap.size + 1, 1, none⟩ = some (.int .i64 tt) := HS.out.cell 1
                  have kC0 : v23.cell? ⟨w.heap.size + 1 + 1, 0, none⟩ = some (.int .i64 pu1) := HC.out.cell 0
                  have kC1 : v23.cell? ⟨w.heap.size + 1 + 1, 1, none⟩ = some (.int .i64 pd1) := HC.out.cell 1
                  have kC2 : v23.cell? ⟨w.heap.size + 1 + 1, 2, none⟩ = some (.int .i64 po) := HC.out.cell 2
                  have kA0 : v23.cell? ⟨b, o + k * 4, none⟩ = some (.int .i64 tk) := HA.out 0 _ rfl
                  have kA1 : v23.cell? ⟨b, o + k * 4 + 1, none⟩ = some (.int .i64 pk) := HA.out 1 _ rfl
                  have kA2 : v23.cell? ⟨b, o + k * 4 + 2, none⟩ = some (.int .i64 dk) := HA.out 2 _ rfl
                  have kA3 : v23.cell? ⟨b, o + k * 4 + 3, none⟩ = some (.bool false) := HA.out 3 _ rfl
                  go_wp2_with fail
                  refine (KG2.out _ HC.out).mono ?_
                  rintro e v24 ⟨rfl, hp⟩
                  clear kL0 kS0 kS1 kC0 kC1 kC2 kA0 kA1 kA2 kA3
                  have HL := Lib.hid (hp.2.2 _ _ _ (by omega) HL.out)
                  have HS := Lib.hid (hp.2.2 _ _ _ (by omega) HS.out)
                  have HC := Lib.hid hp.1
                  have EE := Lib.hid (EE.out.trans (hp.2.1 w.heap.size (by omega) EE.out.size))
                  clear hp
                  have hA : At v24 b (o + k * 4) #[.int .i64 (T k), .int .i64 (P k), .int .i64 (D k), .bool (O k)] := (at4 (HCELL.out k h).1 (HCELL.out k h).2.1 (HCELL.out k h).2.2.1 (HCELL.out k h).2.2.2).next EE.out
                  rw [HTK.out, HPK.out, HDK.out, HOK.out] at hA
                  have HA := Lib.hid hA; clear hA
                  have kL0 : v24.cell? ⟨w.heap.size, 0, none⟩ = some (.slice (some ⟨b, o, none⟩) n c) := HL.out.cell 0
                  have kS0 : v24.cell? ⟨w.heap.size + 1, 0, none⟩ = some (.int .i64 f) := HS.out.cell 0
                  have kS1 : v24.cell? ⟨w.heap.size + 1, 1, none⟩ = some (.int .i64 tt) := HS.out.cell 1
                  have kC0 : v24.cell? ⟨w.heap.size + 1 + 1, 0, none⟩ = some (.int .i64 pu2) := HC.out.cell 0
                  have kC1 : v24.cell? ⟨w.heap.size + 1 + 1, 1, none⟩ = some (.int .i64 pd2) := HC.out.cell 1
                  have kC2 : v24.cell? ⟨w.heap.size + 1 + 1, 2, none⟩ = some (.int .i64 po) := HC.out.cell 2
                  have kA0 : v24.cell? ⟨b, o + k * 4, none⟩ = some (.int .i64 tk) := HA.out 0 _ rfl
                  have kA1 : v24.cell? ⟨b, o + k * 4 + 1, none⟩ = some (.int .i64 pk) := HA.out 1 _ rfl
                  have kA2 : v24.cell? ⟨b, o + k * 4 + 2, none⟩ = some (.int .i64 dk) := HA.out 2 _ rfl
                  have kA3 : v24.cell? ⟨b, o + k * 4 + 3, none⟩ = some (.bool false) := HA.out 3 _ rfl
                  go_wp2_with fail
                  go_roundw
                  case rel => exact ⟨k + 1, by omega, by go_num, by rw [e1.out, e2.out, e3.out]; exact HC.out, HL.out, HS.out, EE.out⟩
                  case measure => simp [intOf]; omega
                · subst hok
                  rw [if_pos rfl] at SD
                  have SS := still_step (P := P) (D := D) (O := O) HRS.out h (by rw [HTK.out]; exact HH1.out) (a := f) (b := tt) (by rw [HCU.out, HTK.out, HAM.out]; omega) HOK.out
                  rw [Hpu.out, Hpd.out] at SS
                  obtain ⟨po2, hpo2⟩ : ∃ q, po + (tn - a) = q := ⟨_, rfl⟩
                  rw [hpo2] at SD
                  have e1 := Lib.hid SS.1; have e2 := Lib.hid SS.2; have e3 := Lib.hid SD; clear SS SD
                  have w1 : IntKind.i64.wrap (tn - a) = tn - a := IntWalk.i64_in _ (by omega)
                  have w2 : IntKind.i64.wrap (po + (tn - a)) = po2 := by rw [hpo2]; exact IntWalk.i64_in _ (by omega)
                  clear hpo2
                  have kL0 : v21.cell? ⟨w.heap.size, 0, none⟩ = some (.slice (some ⟨b, o, none⟩) n c) := HL.out.cell 0
                  have kS0 : v21.cell? ⟨w.heap.size + 1, 0, none⟩ = some (.int .i64 f) := HS.out.cell 0
                  have kS1 : v21.cell? ⟨w.heap.size + 1, 1, none⟩ = some (.int .i64 tt) := HS.out.cell 1
                  have kC0 : v21.cell? ⟨w.heap.size + 1 + 1, 0, none⟩ = some (.int .i64 pu) := HC.out.cell 0
                  have jC0 : v21.frozen? ⟨w.heap.size + 1 + 1, 0, none⟩ = false := HC.out.frozen 0
                  have kC1 : v21.cell? ⟨w.heap.size + 1 + 1, 1, none⟩ = some (.int .i64 pd) := HC.out.cell 1
                  have jC1 : v21.frozen? ⟨w.heap.size + 1 + 1, 1, none⟩ = false := HC.out.frozen 1
                  have kC2 : v21.cell? ⟨w.heap.size + 1 + 1, 2, none⟩ = some (.int .i64 po) := HC.out.cell 2
                  have jC2 : v21.frozen? ⟨w.heap.size + 1 + 1, 2, none⟩ = false := HC.out.frozen 2
                  have kA0 : v21.cell? ⟨b, o + k * 4, none⟩ = some (.int .i64 tk) := HA.out 0 _ rfl
                  have kA1 : v21.cell? ⟨b, o + k * 4 + 1, none⟩ = some (.int .i64 pk) := HA.out 1 _ rfl
                  have kA2 : v21.cell? ⟨b, o + k * 4 + 2, none⟩ = some (.int .i64 dk) := HA.out 2 _ rfl
                  have kA3 : v21.cell? ⟨b, o + k * 4 + 3, none⟩ = some (.bool true) := HA.out 3 _ rfl
                  have kN0 : v21.cell? ⟨b, o + (k + 1) * 4, none⟩ = some (.int .i64 tn) := HN.out 0 _ rfl
                  go_wp2_with fail
                  clear kL0 kS0 kS1 kC0 jC0 kC1 jC1 kC2 jC2 kA0 kA1 kA2 kA3 kN0
                  have GL : Blk (v21.setCell ⟨w.heap.size + 1 + 1, 2, none⟩ (.int .i64 po2)) (w.heap.size) 22 #[.slice (some ⟨b, o, none⟩) n c] := (HL.out.far (p := ⟨w.heap.size + 1 + 1, 2, none⟩) ne0_2 (.int .i64 po2))
                  have GS : Blk (v21.setCell ⟨w.heap.size + 1 + 1, 2, none⟩ (.int .i64 po2)) (w.heap.size + 1) 24 #[.int .i64 f, .int .i64 tt] := (HS.out.far (p := ⟨w.heap.size + 1 + 1, 2, none⟩) ne1_2 (.int .i64 po2))
                  have GC : Blk (v21.setCell ⟨w.heap.size + 1 + 1, 2, none⟩ (.int .i64 po2)) (w.heap.size + 1 + 1) 49 #[.int .i64 pu, .int .i64 pd, .int .i64 po2] := (HC.out.set 2 (.int .i64 po2))
                  have GA : At (v21.setCell ⟨w.heap.size + 1 + 1, 2, none⟩ (.int .i64 po2)) b (o + k * 4) #[.int .i64 tk, .int .i64 pk, .int .i64 dk, .bool true] := (HA.out.far (p := ⟨w.heap.size + 1 + 1, 2, none⟩) (by show b ≠ w.heap.size + 1 + 1; omega) (.int .i64 po2))
                  have GN : At (v21.setCell ⟨w.heap.size + 1 + 1, 2, none⟩ (.int .i64 po2)) b (o + (k + 1) * 4) #[.int .i64 tn] := (HN.out.far (p := ⟨w.heap.size + 1 + 1, 2, none⟩) (by show b ≠ w.heap.size + 1 + 1; omega) (.int .i64 po2))
                  have GE : Below w.heap.size w (v21.setCell ⟨w.heap.size + 1 + 1, 2, none⟩ (.int .i64 po2)) := (EE.out.setCell (p := ⟨w.heap.size + 1 + 1, 2, none⟩) (by show w.heap.size ≤ w.heap.size + 1 + 1; omega) (.int .i64 po2))
                  obtain ⟨v22, hv22⟩ : ∃ V, (v21.setCell ⟨w.heap.size + 1 + 1, 2, none⟩ (.int .i64 po2)) = V := ⟨_, rfl⟩
                  rw [hv22] at GL GS GC GA GN GE ⊢
                  have HL := Lib.hid GL
                  have HS := Lib.hid GS
                  have HC := Lib.hid GC
                  have HA := Lib.hid GA
                  have HN := Lib.hid GN
                  have EE := Lib.hid GE
                  clear hv22 GL GS GC GA GN GE
                  have kL0 : v22.cell? ⟨w.heap.size, 0, none⟩ = some (.slice (some ⟨b, o, none⟩) n c) := HL.out.cell 0
                  have kS0 : v22.cell? ⟨w.heap.size + 1, 0, none⟩ = some (.int .i64 f) := HS.out.cell 0
                  have kS1 : v22.cell? ⟨w.heap.size + 1, 1, none⟩ = some (.int .i64 tt) := HS.out.cell 1
                  have kC0 : v22.cell? ⟨w.heap.size + 1 + 1, 0, none⟩ = some (.int .i64 pu) := HC.out.cell 0
                  have jC0 : v22.frozen? ⟨w.heap.size + 1 + 1, 0, none⟩ = false := HC.out.frozen 0
                  have kC1 : v22.cell? ⟨w.heap.size + 1 + 1, 1, none⟩ = some (.int .i64 pd) := HC.out.cell 1
                  have jC1 : v22.frozen? ⟨w.heap.size + 1 + 1, 1, none⟩ = false := HC.out.frozen 1
                  have kC2 : v22.cell? ⟨w.heap.size + 1 + 1, 2, none⟩ = some (.int .i64 po2) := HC.out.cell 2
                  have jC2 : v22.frozen? ⟨w.heap.size + 1 + 1, 2, none⟩ = false := HC.out.frozen 2
                  have kA0 : v22.cell? ⟨b, o + k * 4, none⟩ = some (.int .i64 tk) := HA.out 0 _ rfl
                  have kA1 : v22.cell? ⟨b, o + k * 4 + 1, none⟩ = some (.int .i64 pk) := HA.out 1 _ rfl
                  have kA2 : v22.cell? ⟨b, o + k * 4 + 2, none⟩ = some (.int .i64 dk) := HA.out 2 _ rfl
                  have kA3 : v22.cell? ⟨b, o + k * 4 + 3, none⟩ = some (.bool true) := HA.out 3 _ rfl
                  have kN0 : v22.cell? ⟨b, o + (k + 1) * 4, none⟩ = some (.int .i64 tn) := HN.out 0 _ rfl
                  go_roundw
                  case rel => exact ⟨k + 1, by omega, by go_num, by rw [e1.out, e2.out, e3.out]; exact HC.out, HL.out, HS.out, EE.out⟩
                  case measure => simp [intOf]; omega
            · have HCU := Lib.hid (show cutL T n tt k = tt by rw [hcut]; omega); clear hcut
              have HCU2 : tt ≤ tt ∧ tt ≤ f + 300 := by omega
              by_cases h3 : tt ≤ a
              · have SM := fun fn => part_same (f := fn) HRS.out h (by rw [HTK.out]; exact HH1.out) (by rw [HCU.out, HTK.out, HAM.out]; exact h3)
                have e1 := Lib.hid ((SM (upL T P D O n)).trans Hpu.out); have e2 := Lib.hid ((SM (dnL T P D O n)).trans Hpd.out); have e3 := Lib.hid ((SM (doL T O n)).trans Hpo.out)
                clear SM
                have kL0 : v21.cell? ⟨w.heap.size, 0, none⟩ = some (.slice (some ⟨b, o, none⟩) n c) := HL.out.cell 0
                have kS0 : v21.cell? ⟨w.heap.size + 1, 0, none⟩ = some (.int .i64 f) := HS.out.cell 0
                have kS1 : v21.cell? ⟨w.heap.size + 1, 1, none⟩ = some (.int .i64 tt) := HS.out.cell 1
                have kC0 : v21.cell? ⟨w.heap.size + 1 + 1, 0, none⟩ = some (.int .i64 pu) := HC.out.cell 0
                have kC1 : v21.cell? ⟨w.heap.size + 1 + 1, 1, none⟩ = some (.int .i64 pd) := HC.out.cell 1
                have kC2 : v21.cell? ⟨w.heap.size + 1 + 1, 2, none⟩ = some (.int .i64 po) := HC.out.cell 2
                have kA0 : v21.cell? ⟨b, o + k * 4, none⟩ = some (.int .i64 tk) := HA.out 0 _ rfl
                have kA1 : v21.cell? ⟨b, o + k * 4 + 1, none⟩ = some (.int .i64 pk) := HA.out 1 _ rfl
                have kA2 : v21.cell? ⟨b, o + k * 4 + 2, none⟩ = some (.int .i64 dk) := HA.out 2 _ rfl
                have kA3 : v21.cell? ⟨b, o + k * 4 + 3, none⟩ = some (.bool ok) := HA.out 3 _ rfl
                have kN0 : v21.cell? ⟨b, o + (k + 1) * 4, none⟩ = some (.int .i64 tn) := HN.out 0 _ rfl
                go_wp2_with fail
                go_roundw
                case rel => exact ⟨k + 1, by omega, by go_num, by rw [e1.out, e2.out, e3.out]; exact HC.out, HL.out, HS.out, EE.out⟩
                case measure => simp [intOf]; omega
              · have SD := door_step (O := O) HRS.out h (by rw [HTK.out]; exact HH1.out) (a := f) (b := tt) (by rw [HCU.out, HTK.out, HAM.out]; omega)
                rw [HOK.out, Hpo.out, HCU.out, HTK.out, HAM.out] at SD
                cases hok : ok
                · subst hok
                  rw [if_neg (by simp)] at SD
                  have SU := up_step (P := P) (D := D) (O := O) HRS.out h (by rw [HTK.out]; exact HH1.out) (a := f) (b := tt) (by rw [HCU.out, HTK.out, HAM.out]; omega) HOK.out
                  have SN := dn_step (P := P) (D := D) (O := O) HRS.out h (by rw [HTK.out]; exact HH1.out) (a := f) (b := tt) (by rw [HCU.out, HTK.out, HAM.out]; omega) HOK.out
                  rw [Hpu.out, HCU.out, HTK.out, HAM.out, HDK.out] at SU
                  rw [Hpd.out, HCU.out, HTK.out, HAM.out, HDK.out] at SN
                  have KC := Lib.hid (fun w hr => came_any (some ⟨b, o, none⟩) c n T P D O a w hr HF.out (by omega) (by omega))
                  obtain ⟨cm, hcm⟩ : ∃ q, cameL T P D n a = q := ⟨_, rfl⟩
                  rw [hcm] at SU SN KC
                  obtain ⟨pu1, hpu1⟩ : ∃ q, pu + (if 0 < cm then 1 else 0) = q := ⟨_, rfl⟩
                  obtain ⟨pd1, hpd1⟩ : ∃ q, pd + (if cm < 0 then 1 else 0) = q := ⟨_, rfl⟩
                  obtain ⟨kk, hkk⟩ : ∃ q, tt - a - 1 = q := ⟨_, rfl⟩
                  rw [hpu1, hkk] at SU
                  rw [hpd1, hkk] at SN
                  obtain ⟨pu2, hpu2⟩ : ∃ q, pu1 + (if 0 < dk then kk else 0) = q := ⟨_, rfl⟩
                  obtain ⟨pd2, hpd2⟩ : ∃ q, pd1 + (if dk < 0 then kk else 0) = q := ⟨_, rfl⟩
                  rw [hpu2] at SU
                  rw [hpd2] at SN
                  have bu1 : 0 ≤ pu1 ∧ pu1 ≤ 301 := by rw [← hpu1]; split <;> omega
                  have bd1 : 0 ≤ pd1 ∧ pd1 ≤ 301 := by rw [← hpd1]; split <;> omega
                  have bk : 0 ≤ kk ∧ kk ≤ 300 := by omega
                  have SD2 := SD; rw [Int.add_zero] at SD2
                  have e1 := Lib.hid SU; have e2 := Lib.hid SN; have e3 := Lib.hid SD2; clear SU SN SD SD2
                  have w1 : IntKind.i64.wrap (tt - a) = tt - a := IntWalk.i64_in _ (by omega)
                  have w2 : IntKind.i64.wrap (tt - a - 1) = kk := by rw [hkk]; exact IntWalk.i64_in _ (by omega)
                  have KG1 := Lib.hid (fun W hb => goes_any (w.heap.size + 1 + 1) pu pd po cm 1 pu1 pd1 W hb (by omega) (by omega) (by omega) (by omega) (by omega) (by omega) hpu1 hpd1)
                  have KG2 := Lib.hid (fun W hb => goes_any (w.heap.size + 1 + 1) pu1 pd1 po dk kk pu2 pd2 W hb (by omega) (by omega) (by omega) (by omega) (by omega) (by omega) hpu2 hpd2)
                  clear hcm hpu1 hpd1 hkk hpu2 hpd2 bu1 bd1 bk
                  have kL0 : v21.cell? ⟨w.heap.size, 0, none⟩ = some (.slice (some ⟨b, o, none⟩) n c) := HL.out.cell 0
                  have kS0 : v21.cell? ⟨w.heap.size + 1, 0, none⟩ = some (.int .i64 f) := HS.out.cell 0
                  have kS1 : v21.cell? ⟨w.heap.size + 1, 1, none⟩ = some (.int .i64 tt) := HS.out.cell 1
                  have kC0 : v21.cell? ⟨w.heap.size + 1 + 1, 0, none⟩ = some (.int .i64 pu) := HC.out.cell 0
                  have kC1 : v21.cell? ⟨w.heap.size + 1 + 1, 1, none⟩ = some (.int .i64 pd) := HC.out.cell 1
                  have kC2 : v21.cell? ⟨w.heap.size + 1 + 1, 2, none⟩ = some (.int .i64 po) := HC.out.cell 2
                  have kA0 : v21.cell? ⟨b, o + k * 4, none⟩ = some (.int .i64 tk) := HA.out 0 _ rfl
                  have kA1 : v21.cell? ⟨b, o + k * 4 + 1, none⟩ = some (.int .i64 pk) := HA.out 1 _ rfl
                  have kA2 : v21.cell? ⟨b, o + k * 4 + 2, none⟩ = some (.int .i64 dk) := HA.out 2 _ rfl
                  have kA3 : v21.cell? ⟨b, o + k * 4 + 3, none⟩ = some (.bool false) := HA.out 3 _ rfl
                  have kN0 : v21.cell? ⟨b, o + (k + 1) * 4, none⟩ = some (.int .i64 tn) := HN.out 0 _ rfl
                  go_wp2_with fail
                  refine (KC.out _ (HR.out.kept EE.out)).mono ?_
                  rintro e v22 ⟨rfl, hb⟩
                  clear kL0 kS0 kS1 kC0 kC1 kC2 kA0 kA1 kA2 kA3 kN0
                  have HL := Lib.hid (Blk.next (w := v21) HL.out hb)
                  have HS := Lib.hid (Blk.next (w := v21) HS.out hb)
                  have HC := Lib.hid (Blk.next (w := v21) HC.out hb)
                  have HA := Lib.hid (At.next (w := v21) HA.out hb)
                  have HN := Lib.hid (At.next (w := v21) HN.out hb)
                  have EE := Lib.hid (EE.out.trans (hb.mono EE.out.size))
                  clear hb
                  have kL0 : v22.cell? ⟨w.heap.size, 0, none⟩ = some (.slice (some ⟨b, o, none⟩) n c) := HL.out.cell 0
                  have kS0 : v22.cell? ⟨w.heap.size + 1, 0, none⟩ = some (.int .i64 f) := HS.out.cell 0
                  have kS1 : v22.cell? ⟨w.heap.size + 1, 1, none⟩ = some (.int .i64 tt) := HS.out.cell 1
                  have kC0 : v22.cell? ⟨w.heap.size + 1 + 1, 0, none⟩ = some (.int .i64 pu) := HC.out.cell 0
                  have kC1 : v22.cell? ⟨w.heap.size + 1 + 1, 1, none⟩ = some (.int .i64 pd) := HC.out.cell 1
                  have kC2 : v22.cell? ⟨w.heap.size + 1 + 1, 2, none⟩ = some (.int .i64 po) := HC.out.cell 2
                  have kA0 : v22.cell? ⟨b, o + k * 4, none⟩ = some (.int .i64 tk) := HA.out 0 _ rfl
                  have kA1 : v22.cell? ⟨b, o + k * 4 + 1, none⟩ = some (.int .i64 pk) := HA.out 1 _ rfl
                  have kA2 : v22.cell? ⟨b, o + k * 4 + 2, none⟩ = some (.int .i64 dk) := HA.out 2 _ rfl
                  have kA3 : v22.cell? ⟨b, o + k * 4 + 3, none⟩ = some (.bool false) := HA.out 3 _ rfl
                  have kN0 : v22.cell? ⟨b, o + (k + 1) * 4, none⟩ = some (.int .i64 tn) := HN.out 0 _ rfl
                  go_wp2_with fail
                  refine (KG1.out _ HC.out).mono ?_
                  rintro e v23 ⟨rfl, hp⟩
                  clear kL0 kS0 kS1 kC0 kC1 kC2 kA0 kA1 kA2 kA3 kN0
                  have HL := Lib.hid (hp.2.2 _ _ _ (by omega) HL.out)
                  have HS := Lib.hid (hp.2.2 _ _ _ (by omega) HS.out)
                  have HC := Lib.hid hp.1
                  have EE := Lib.hid (EE.out.trans (hp.2.1 w.heap.size (by omega) EE.out.size))
                  clear hp
                  have hA : At v23 b (o + k * 4) #[.int .i64 (T k), .int .i64 (P k), .int .i64 (D k), .bool (O k)] := (at4 (HCELL.out k h).1 (HCELL.out k h).2.1 (HCELL.out k h).2.2.1 (HCELL.out k h).2.2.2).next EE.out
                  rw [HTK.out, HPK.out, HDK.out, HOK.out] at hA
                  have HA := Lib.hid hA; clear hA
                  have kL0 : v23.cell? ⟨w.heap.size, 0, none⟩ = some (.slice (some ⟨b, o, none⟩) n c) := HL.out.cell 0
                  have kS0 : v23.cell? ⟨w.heap.size + 1, 0, none⟩ = some (.int .i64 f) := HS.out.cell 0
                  have kS1 : v23.cell? ⟨w.heap.size + 1, 1, none⟩ = some (.int .i64 tt) := HS.out.cell 1
                  have kC0 : v23.cell? ⟨w.heap.size + 1 + 1, 0, none⟩ = some (.int .i64 pu1) := HC.out.cell 0
                  have kC1 : v23.cell? ⟨w.heap.size + 1 + 1, 1, none⟩ = some (.int .i64 pd1) := HC.out.cell 1
                  have kC2 : v23.cell? ⟨w.heap.size + 1 + 1, 2, none⟩ = some (.int .i64 po) := HC.out.cell 2
                  have kA0 : v23.cell? ⟨b, o + k * 4, none⟩ = some (.int .i64 tk) := HA.out 0 _ rfl
                  have kA1 : v23.cell? ⟨b, o + k * 4 + 1, none⟩ = some (.int .i64 pk) := HA.out 1 _ rfl
                  have kA2 : v23.cell? ⟨b, o + k * 4 + 2, none⟩ = some (.int .i64 dk) := HA.out 2 _ rfl
                  have kA3 : v23.cell? ⟨b, o + k * 4 + 3, none⟩ = some (.bool false) := HA.out 3 _ rfl
                  go_wp2_with fail
                  refine (KG2.out _ HC.out).mono ?_
                  rintro e v24 ⟨rfl, hp⟩
                  clear kL0 kS0 kS1 kC0 kC1 kC2 kA0 kA1 kA2 kA3
                  have HL := Lib.hid (hp.2.2 _ _ _ (by omega) HL.out)
                  have HS := Lib.hid (hp.2.2 _ _ _ (by omega) HS.out)
                  have HC := Lib.hid hp.1
                  have EE := Lib.hid (EE.out.trans (hp.2.1 w.heap.size (by omega) EE.out.size))
                  clear hp
                  have hA : At v24 b (o + k * 4) #[.int .i64 (T k), .int .i64 (P k), .int .i64 (D k), .bool (O k)] := (at4 (HCELL.out k h).1 (HCELL.out k h).2.1 (HCELL.out k h).2.2.1 (HCELL.out k h).2.2.2).next EE.out
                  rw [HTK.out, HPK.out, HDK.out, HOK.out] at hA
                  have HA := Lib.hid hA; clear hA
                  have kL0 : v24.cell? ⟨w.heap.size, 0, none⟩ = some (.slice (some ⟨b, o, none⟩) n c) := HL.out.cell 0
                  have kS0 : v24.cell? ⟨w.heap.size + 1, 0, none⟩ = some (.int .i64 f) := HS.out.cell 0
                  have kS1 : v24.cell? ⟨w.heap.size + 1, 1, none⟩ = some (.int .i64 tt) := HS.out.cell 1
                  have kC0 : v24.cell? ⟨w.heap.size + 1 + 1, 0, none⟩ = some (.int .i64 pu2) := HC.out.cell 0
                  have kC1 : v24.cell? ⟨w.heap.size + 1 + 1, 1, none⟩ = some (.int .i64 pd2) := HC.out.cell 1
                  have kC2 : v24.cell? ⟨w.heap.size + 1 + 1, 2, none⟩ = some (.int .i64 po) := HC.out.cell 2
                  have kA0 : v24.cell? ⟨b, o + k * 4, none⟩ = some (.int .i64 tk) := HA.out 0 _ rfl
                  have kA1 : v24.cell? ⟨b, o + k * 4 + 1, none⟩ = some (.int .i64 pk) := HA.out 1 _ rfl
                  have kA2 : v24.cell? ⟨b, o + k * 4 + 2, none⟩ = some (.int .i64 dk) := HA.out 2 _ rfl
                  have kA3 : v24.cell? ⟨b, o + k * 4 + 3, none⟩ = some (.bool false) := HA.out 3 _ rfl
                  go_wp2_with fail
                  go_roundw
                  case rel => exact ⟨k + 1, by omega, by go_num, by rw [e1.out, e2.out, e3.out]; exact HC.out, HL.out, HS.out, EE.out⟩
                  case measure => simp [intOf]; omega
                · subst hok
                  rw [if_pos rfl] at SD
                  have SS := still_step (P := P) (D := D) (O := O) HRS.out h (by rw [HTK.out]; exact HH1.out) (a := f) (b := tt) (by rw [HCU.out, HTK.out, HAM.out]; omega) HOK.out
                  rw [Hpu.out, Hpd.out] at SS
                  obtain ⟨po2, hpo2⟩ : ∃ q, po + (tt - a) = q := ⟨_, rfl⟩
                  rw [hpo2] at SD
                  have e1 := Lib.hid SS.1; have e2 := Lib.hid SS.2; have e3 := Lib.hid SD; clear SS SD
                  have w1 : IntKind.i64.wrap (tt - a) = tt - a := IntWalk.i64_in _ (by omega)
                  have w2 : IntKind.i64.wrap (po + (tt - a)) = po2 := by rw [hpo2]; exact IntWalk.i64_in _ (by omega)
                  clear hpo2
                  have kL0 : v21.cell? ⟨w.heap.size, 0, none⟩ = some (.slice (some ⟨b, o, none⟩) n c) := HL.out.cell 0
                  have kS0 : v21.cell? ⟨w.heap.size + 1, 0, none⟩ = some (.int .i64 f) := HS.out.cell 0
                  have kS1 : v21.cell? ⟨w.heap.size + 1, 1, none⟩ = some (.int .i64 tt) := HS.out.cell 1
                  have kC0 : v21.cell? ⟨w.heap.size + 1 + 1, 0, none⟩ = some (.int .i64 pu) := HC.out.cell 0
                  have jC0 : v21.frozen? ⟨w.heap.size + 1 + 1, 0, none⟩ = false := HC.out.frozen 0
                  have kC1 : v21.cell? ⟨w.heap.size + 1 + 1, 1, none⟩ = some (.int .i64 pd) := HC.out.cell 1
                  have jC1 : v21.frozen? ⟨w.heap.size + 1 + 1, 1, none⟩ = false := HC.out.frozen 1
                  have kC2 : v21.cell? ⟨w.heap.size + 1 + 1, 2, none⟩ = some (.int .i64 po) := HC.out.cell 2
                  have jC2 : v21.frozen? ⟨w.heap.size + 1 + 1, 2, none⟩ = false := HC.out.frozen 2
                  have kA0 : v21.cell? ⟨b, o + k * 4, none⟩ = some (.int .i64 tk) := HA.out 0 _ rfl
                  have kA1 : v21.cell? ⟨b, o + k * 4 + 1, none⟩ = some (.int .i64 pk) := HA.out 1 _ rfl
                  have kA2 : v21.cell? ⟨b, o + k * 4 + 2, none⟩ = some (.int .i64 dk) := HA.out 2 _ rfl
                  have kA3 : v21.cell? ⟨b, o + k * 4 + 3, none⟩ = some (.bool true) := HA.out 3 _ rfl
                  have kN0 : v21.cell? ⟨b, o + (k + 1) * 4, none⟩ = some (.int .i64 tn) := HN.out 0 _ rfl
                  go_wp2_with fail
                  clear kL0 kS0 kS1 kC0 jC0 kC1 jC1 kC2 jC2 kA0 kA1 kA2 kA3 kN0
                  have GL : Blk (v21.setCell ⟨w.heap.size + 1 + 1, 2, none⟩ (.int .i64 po2)) (w.heap.size) 22 #[.slice (some ⟨b, o, none⟩) n c] := (HL.out.far (p := ⟨w.heap.size + 1 + 1, 2, none⟩) ne0_2 (.int .i64 po2))
                  have GS : Blk (v21.setCell ⟨w.heap.size + 1 + 1, 2, none⟩ (.int .i64 po2)) (w.heap.size + 1) 24 #[.int .i64 f, .int .i64 tt] := (HS.out.far (p := ⟨w.heap.size + 1 + 1, 2, none⟩) ne1_2 (.int .i64 po2))
                  have GC : Blk (v21.setCell ⟨w.heap.size + 1 + 1, 2, none⟩ (.int .i64 po2)) (w.heap.size + 1 + 1) 49 #[.int .i64 pu, .int .i64 pd, .int .i64 po2] := (HC.out.set 2 (.int .i64 po2))
                  have GA : At (v21.setCell ⟨w.heap.size + 1 + 1, 2, none⟩ (.int .i64 po2)) b (o + k * 4) #[.int .i64 tk, .int .i64 pk, .int .i64 dk, .bool true] := (HA.out.far (p := ⟨w.heap.size + 1 + 1, 2, none⟩) (by show b ≠ w.heap.size + 1 + 1; omega) (.int .i64 po2))
                  have GN : At (v21.setCell ⟨w.heap.size + 1 + 1, 2, none⟩ (.int .i64 po2)) b (o + (k + 1) * 4) #[.int .i64 tn] := (HN.out.far (p := ⟨w.heap.size + 1 + 1, 2, none⟩) (by show b ≠ w.heap.size + 1 + 1; omega) (.int .i64 po2))
                  have GE : Below w.heap.size w (v21.setCell ⟨w.heap.size + 1 + 1, 2, none⟩ (.int .i64 po2)) := (EE.out.setCell (p := ⟨w.heap.size + 1 + 1, 2, none⟩) (by show w.heap.size ≤ w.heap.size + 1 + 1; omega) (.int .i64 po2))
                  obtain ⟨v22, hv22⟩ : ∃ V, (v21.setCell ⟨w.heap.size + 1 + 1, 2, none⟩ (.int .i64 po2)) = V := ⟨_, rfl⟩
                  rw [hv22] at GL GS GC GA GN GE ⊢
                  have HL := Lib.hid GL
                  have HS := Lib.hid GS
                  have HC := Lib.hid GC
                  have HA := Lib.hid GA
                  have HN := Lib.hid GN
                  have EE := Lib.hid GE
                  clear hv22 GL GS GC GA GN GE
                  have kL0 : v22.cell? ⟨w.heap.size, 0, none⟩ = some (.slice (some ⟨b, o, none⟩) n c) := HL.out.cell 0
                  have kS0 : v22.cell? ⟨w.heap.size + 1, 0, none⟩ = some (.int .i64 f) := HS.out.cell 0
                  have kS1 : v22.cell? ⟨w.heap.size + 1, 1, none⟩ = some (.int .i64 tt) := HS.out.cell 1
                  have kC0 : v22.cell? ⟨w.heap.size + 1 + 1, 0, none⟩ = some (.int .i64 pu) := HC.out.cell 0
                  have jC0 : v22.frozen? ⟨w.heap.size + 1 + 1, 0, none⟩ = false := HC.out.frozen 0
                  have kC1 : v22.cell? ⟨w.heap.size + 1 + 1, 1, none⟩ = some (.int .i64 pd) := HC.out.cell 1
                  have jC1 : v22.frozen? ⟨w.heap.size + 1 + 1, 1, none⟩ = false := HC.out.frozen 1
                  have kC2 : v22.cell? ⟨w.heap.size + 1 + 1, 2, none⟩ = some (.int .i64 po2) := HC.out.cell 2
                  have jC2 : v22.frozen? ⟨w.heap.size + 1 + 1, 2, none⟩ = false := HC.out.frozen 2
                  have kA0 : v22.cell? ⟨b, o + k * 4, none⟩ = some (.int .i64 tk) := HA.out 0 _ rfl
                  have kA1 : v22.cell? ⟨b, o + k * 4 + 1, none⟩ = some (.int .i64 pk) := HA.out 1 _ rfl
                  have kA2 : v22.cell? ⟨b, o + k * 4 + 2, none⟩ = some (.int .i64 dk) := HA.out 2 _ rfl
                  have kA3 : v22.cell? ⟨b, o + k * 4 + 3, none⟩ = some (.bool true) := HA.out 3 _ rfl
                  have kN0 : v22.cell? ⟨b, o + (k + 1) * 4, none⟩ = some (.int .i64 tn) := HN.out 0 _ rfl
                  go_roundw
                  case rel => exact ⟨k + 1, by omega, by go_num, by rw [e1.out, e2.out, e3.out]; exact HC.out, HL.out, HS.out, EE.out⟩
                  case measure => simp [intOf]; omega
          · have hk2 : ¬ ((k : Int) + 1 < (n : Int)) := by omega
            have HCU := Lib.hid (show cutL T n tt k = tt by unfold cutL; rw [if_neg h2])
            have HCU2 : tt ≤ tt ∧ tt ≤ f + 300 := by omega
            by_cases h3 : tt ≤ a
            · have SM := fun fn => part_same (f := fn) HRS.out h (by rw [HTK.out]; exact HH1.out) (by rw [HCU.out, HTK.out, HAM.out]; exact h3)
              have e1 := Lib.hid ((SM (upL T P D O n)).trans Hpu.out); have e2 := Lib.hid ((SM (dnL T P D O n)).trans Hpd.out); have e3 := Lib.hid ((SM (doL T O n)).trans Hpo.out)
              clear SM
              have kL0 : v21.cell? ⟨w.heap.size, 0, none⟩ = some (.slice (some ⟨b, o, none⟩) n c) := HL.out.cell 0
              have kS0 : v21.cell? ⟨w.heap.size + 1, 0, none⟩ = some (.int .i64 f) := HS.out.cell 0
              have kS1 : v21.cell? ⟨w.heap.size + 1, 1, none⟩ = some (.int .i64 tt) := HS.out.cell 1
              have kC0 : v21.cell? ⟨w.heap.size + 1 + 1, 0, none⟩ = some (.int .i64 pu) := HC.out.cell 0
              have kC1 : v21.cell? ⟨w.heap.size + 1 + 1, 1, none⟩ = some (.int .i64 pd) := HC.out.cell 1
              have kC2 : v21.cell? ⟨w.heap.size + 1 + 1, 2, none⟩ = some (.int .i64 po) := HC.out.cell 2
              have kA0 : v21.cell? ⟨b, o + k * 4, none⟩ = some (.int .i64 tk) := HA.out 0 _ rfl
              have kA1 : v21.cell? ⟨b, o + k * 4 + 1, none⟩ = some (.int .i64 pk) := HA.out 1 _ rfl
              have kA2 : v21.cell? ⟨b, o + k * 4 + 2, none⟩ = some (.int .i64 dk) := HA.out 2 _ rfl
              have kA3 : v21.cell? ⟨b, o + k * 4 + 3, none⟩ = some (.bool ok) := HA.out 3 _ rfl
              go_wp2_with fail
              go_roundw
              case rel => exact ⟨k + 1, by omega, by go_num, by rw [e1.out, e2.out, e3.out]; exact HC.out, HL.out, HS.out, EE.out⟩
              case measure => simp [intOf]; omega
            · have SD := door_step (O := O) HRS.out h (by rw [HTK.out]; exact HH1.out) (a := f) (b := tt) (by rw [HCU.out, HTK.out, HAM.out]; omega)
              rw [HOK.out, Hpo.out, HCU.out, HTK.out, HAM.out] at SD
              cases hok : ok
              · subst hok
                rw [if_neg (by simp)] at SD
                have SU := up_step (P := P) (D := D) (O := O) HRS.out h (by rw [HTK.out]; exact HH1.out) (a := f) (b := tt) (by rw [HCU.out, HTK.out, HAM.out]; omega) HOK.out
                have SN := dn_step (P := P) (D := D) (O := O) HRS.out h (by rw [HTK.out]; exact HH1.out) (a := f) (b := tt) (by rw [HCU.out, HTK.out, HAM.out]; omega) HOK.out
                rw [Hpu.out, HCU.out, HTK.out, HAM.out, HDK.out] at SU
                rw [Hpd.out, HCU.out, HTK.out, HAM.out, HDK.out] at SN
                have KC := Lib.hid (fun w hr => came_any (some ⟨b, o, none⟩) c n T P D O a w hr HF.out (by omega) (by omega))
                obtain ⟨cm, hcm⟩ : ∃ q, cameL T P D n a = q := ⟨_, rfl⟩
                rw [hcm] at SU SN KC
                obtain ⟨pu1, hpu1⟩ : ∃ q, pu + (if 0 < cm then 1 else 0) = q := ⟨_, rfl⟩
                obtain ⟨pd1, hpd1⟩ : ∃ q, pd + (if cm < 0 then 1 else 0) = q := ⟨_, rfl⟩
                obtain ⟨kk, hkk⟩ : ∃ q, tt - a - 1 = q := ⟨_, rfl⟩
                rw [hpu1, hkk] at SU
                rw [hpd1, hkk] at SN
                obtain ⟨pu2, hpu2⟩ : ∃ q, pu1 + (if 0 < dk then kk else 0) = q := ⟨_, rfl⟩
                obtain ⟨pd2, hpd2⟩ : ∃ q, pd1 + (if dk < 0 then kk else 0) = q := ⟨_, rfl⟩
                rw [hpu2] at SU
                rw [hpd2] at SN
                have bu1 : 0 ≤ pu1 ∧ pu1 ≤ 301 := by rw [← hpu1]; split <;> omega
                have bd1 : 0 ≤ pd1 ∧ pd1 ≤ 301 := by rw [← hpd1]; split <;> omega
                have bk : 0 ≤ kk ∧ kk ≤ 300 := by omega
                have SD2 := SD; rw [Int.add_zero] at SD2
                have e1 := Lib.hid SU; have e2 := Lib.hid SN; have e3 := Lib.hid SD2; clear SU SN SD SD2
                have w1 : IntKind.i64.wrap (tt - a) = tt - a := IntWalk.i64_in _ (by omega)
                have w2 : IntKind.i64.wrap (tt - a - 1) = kk := by rw [hkk]; exact IntWalk.i64_in _ (by omega)
                have KG1 := Lib.hid (fun W hb => goes_any (w.heap.size + 1 + 1) pu pd po cm 1 pu1 pd1 W hb (by omega) (by omega) (by omega) (by omega) (by omega) (by omega) hpu1 hpd1)
                have KG2 := Lib.hid (fun W hb => goes_any (w.heap.size + 1 + 1) pu1 pd1 po dk kk pu2 pd2 W hb (by omega) (by omega) (by omega) (by omega) (by omega) (by omega) hpu2 hpd2)
                clear hcm hpu1 hpd1 hkk hpu2 hpd2 bu1 bd1 bk
                have kL0 : v21.cell? ⟨w.heap.size, 0, none⟩ = some (.slice (some ⟨b, o, none⟩) n c) := HL.out.cell 0
                have kS0 : v21.cell? ⟨w.heap.size + 1, 0, none⟩ = some (.int .i64 f) := HS.out.cell 0
                have kS1 : v21.cell? ⟨w.heap.size + 1, 1, none⟩ = some (.int .i64 tt) := HS.out.cell 1
                have kC0 : v21.cell? ⟨w.heap.size + 1 + 1, 0, none⟩ = some (.int .i64 pu) := HC.out.cell 0
                have kC1 : v21.cell? ⟨w.heap.size + 1 + 1, 1, none⟩ = some (.int .i64 pd) := HC.out.cell 1
                have kC2 : v21.cell? ⟨w.heap.size + 1 + 1, 2, none⟩ = some (.int .i64 po) := HC.out.cell 2
                have kA0 : v21.cell? ⟨b, o + k * 4, none⟩ = some (.int .i64 tk) := HA.out 0 _ rfl
                have kA1 : v21.cell? ⟨b, o + k * 4 + 1, none⟩ = some (.int .i64 pk) := HA.out 1 _ rfl
                have kA2 : v21.cell? ⟨b, o + k * 4 + 2, none⟩ = some (.int .i64 dk) := HA.out 2 _ rfl
                have kA3 : v21.cell? ⟨b, o + k * 4 + 3, none⟩ = some (.bool false) := HA.out 3 _ rfl
                go_wp2_with fail
                refine (KC.out _ (HR.out.kept EE.out)).mono ?_
                rintro e v22 ⟨rfl, hb⟩
                clear kL0 kS0 kS1 kC0 kC1 kC2 kA0 kA1 kA2 kA3
                have HL := Lib.hid (Blk.next (w := v21) HL.out hb)
                have HS := Lib.hid (Blk.next (w := v21) HS.out hb)
                have HC := Lib.hid (Blk.next (w := v21) HC.out hb)
                have HA := Lib.hid (At.next (w := v21) HA.out hb)
                have EE := Lib.hid (EE.out.trans (hb.mono EE.out.size))
                clear hb
                have kL0 : v22.cell? ⟨w.heap.size, 0, none⟩ = some (.slice (some ⟨b, o, none⟩) n c) := HL.out.cell 0
                have kS0 : v22.cell? ⟨w.heap.size + 1, 0, none⟩ = some (.int .i64 f) := HS.out.cell 0
                have kS1 : v22.cell? ⟨w.heap.size + 1, 1, none⟩ = some (.int .i64 tt) := HS.out.cell 1
                have kC0 : v22.cell? ⟨w.heap.size + 1 + 1, 0, none⟩ = some (.int .i64 pu) := HC.out.cell 0
                have kC1 : v22.cell? ⟨w.heap.size + 1 + 1, 1, none⟩ = some (.int .i64 pd) := HC.out.cell 1
                have kC2 : v22.cell? ⟨w.heap.size + 1 + 1, 2, none⟩ = some (.int .i64 po) := HC.out.cell 2
                have kA0 : v22.cell? ⟨b, o + k * 4, none⟩ = some (.int .i64 tk) := HA.out 0 _ rfl
                have kA1 : v22.cell? ⟨b, o + k * 4 + 1, none⟩ = some (.int .i64 pk) := HA.out 1 _ rfl
                have kA2 : v22.cell? ⟨b, o + k * 4 + 2, none⟩ = some (.int .i64 dk) := HA.out 2 _ rfl
                have kA3 : v22.cell? ⟨b, o + k * 4 + 3, none⟩ = some (.bool false) := HA.out 3 _ rfl
                go_wp2_with fail
                refine (KG1.out _ HC.out).mono ?_
                rintro e v23 ⟨rfl, hp⟩
                clear kL0 kS0 kS1 kC0 kC1 kC2 kA0 kA1 kA2 kA3
                have HL := Lib.hid (hp.2.2 _ _ _ (by omega) HL.out)
                have HS := Lib.hid (hp.2.2 _ _ _ (by omega) HS.out)
                have HC := Lib.hid hp.1
                have EE := Lib.hid (EE.out.trans (hp.2.1 w.heap.size (by omega) EE.out.size))
                clear hp
                have hA : At v23 b (o + k * 4) #[.int .i64 (T k), .int .i64 (P k), .int .i64 (D k), .bool (O k)] := (at4 (HCELL.out k h).1 (HCELL.out k h).2.1 (HCELL.out k h).2.2.1 (HCELL.out k h).2.2.2).next EE.out
                rw [HTK.out, HPK.out, HDK.out, HOK.out] at hA
                have HA := Lib.hid hA; clear hA
                have kL0 : v23.cell? ⟨w.heap.size, 0, none⟩ = some (.slice (some ⟨b, o, none⟩) n c) := HL.out.cell 0
                have kS0 : v23.cell? ⟨w.heap.size + 1, 0, none⟩ = some (.int .i64 f) := HS.out.cell 0
                have kS1 : v23.cell? ⟨w.heap.size + 1, 1, none⟩ = some (.int .i64 tt) := HS.out.cell 1
                have kC0 : v23.cell? ⟨w.heap.size + 1 + 1, 0, none⟩ = some (.int .i64 pu1) := HC.out.cell 0
                have kC1 : v23.cell? ⟨w.heap.size + 1 + 1, 1, none⟩ = some (.int .i64 pd1) := HC.out.cell 1
                have kC2 : v23.cell? ⟨w.heap.size + 1 + 1, 2, none⟩ = some (.int .i64 po) := HC.out.cell 2
                have kA0 : v23.cell? ⟨b, o + k * 4, none⟩ = some (.int .i64 tk) := HA.out 0 _ rfl
                have kA1 : v23.cell? ⟨b, o + k * 4 + 1, none⟩ = some (.int .i64 pk) := HA.out 1 _ rfl
                have kA2 : v23.cell? ⟨b, o + k * 4 + 2, none⟩ = some (.int .i64 dk) := HA.out 2 _ rfl
                have kA3 : v23.cell? ⟨b, o + k * 4 + 3, none⟩ = some (.bool false) := HA.out 3 _ rfl
                go_wp2_with fail
                refine (KG2.out _ HC.out).mono ?_
                rintro e v24 ⟨rfl, hp⟩
                clear kL0 kS0 kS1 kC0 kC1 kC2 kA0 kA1 kA2 kA3
                have HL := Lib.hid (hp.2.2 _ _ _ (by omega) HL.out)
                have HS := Lib.hid (hp.2.2 _ _ _ (by omega) HS.out)
                have HC := Lib.hid hp.1
                have EE := Lib.hid (EE.out.trans (hp.2.1 w.heap.size (by omega) EE.out.size))
                clear hp
                have hA : At v24 b (o + k * 4) #[.int .i64 (T k), .int .i64 (P k), .int .i64 (D k), .bool (O k)] := (at4 (HCELL.out k h).1 (HCELL.out k h).2.1 (HCELL.out k h).2.2.1 (HCELL.out k h).2.2.2).next EE.out
                rw [HTK.out, HPK.out, HDK.out, HOK.out] at hA
                have HA := Lib.hid hA; clear hA
                have kL0 : v24.cell? ⟨w.heap.size, 0, none⟩ = some (.slice (some ⟨b, o, none⟩) n c) := HL.out.cell 0
                have kS0 : v24.cell? ⟨w.heap.size + 1, 0, none⟩ = some (.int .i64 f) := HS.out.cell 0
                have kS1 : v24.cell? ⟨w.heap.size + 1, 1, none⟩ = some (.int .i64 tt) := HS.out.cell 1
                have kC0 : v24.cell? ⟨w.heap.size + 1 + 1, 0, none⟩ = some (.int .i64 pu2) := HC.out.cell 0
                have kC1 : v24.cell? ⟨w.heap.size + 1 + 1, 1, none⟩ = some (.int .i64 pd2) := HC.out.cell 1
                have kC2 : v24.cell? ⟨w.heap.size + 1 + 1, 2, none⟩ = some (.int .i64 po) := HC.out.cell 2
                have kA0 : v24.cell? ⟨b, o + k * 4, none⟩ = some (.int .i64 tk) := HA.out 0 _ rfl
                have kA1 : v24.cell? ⟨b, o + k * 4 + 1, none⟩ = some (.int .i64 pk) := HA.out 1 _ rfl
                have kA2 : v24.cell? ⟨b, o + k * 4 + 2, none⟩ = some (.int .i64 dk) := HA.out 2 _ rfl
                have kA3 : v24.cell? ⟨b, o + k * 4 + 3, none⟩ = some (.bool false) := HA.out 3 _ rfl
                go_wp2_with fail
                go_roundw
                case rel => exact ⟨k + 1, by omega, by go_num, by rw [e1.out, e2.out, e3.out]; exact HC.out, HL.out, HS.out, EE.out⟩
                case measure => simp [intOf]; omega
              · subst hok
                rw [if_pos rfl] at SD
                have SS := still_step (P := P) (D := D) (O := O) HRS.out h (by rw [HTK.out]; exact HH1.out) (a := f) (b := tt) (by rw [HCU.out, HTK.out, HAM.out]; omega) HOK.out
                rw [Hpu.out, Hpd.out] at SS
                obtain ⟨po2, hpo2⟩ : ∃ q, po + (tt - a) = q := ⟨_, rfl⟩
                rw [hpo2] at SD
                have e1 := Lib.hid SS.1; have e2 := Lib.hid SS.2; have e3 := Lib.hid SD; clear SS SD
                have w1 : IntKind.i64.wrap (tt - a) = tt - a := IntWalk.i64_in _ (by omega)
                have w2 : IntKind.i64.wrap (po + (tt - a)) = po2 := by rw [hpo2]; exact IntWalk.i64_in _ (by omega)
                clear hpo2
                have kL0 : v21.cell? ⟨w.heap.size, 0, none⟩ = some (.slice (some ⟨b, o, none⟩) n c) := HL.out.cell 0
                have kS0 : v21.cell? ⟨w.heap.size + 1, 0, none⟩ = some (.int .i64 f) := HS.out.cell 0
                have kS1 : v21.cell? ⟨w.heap.size + 1, 1, none⟩ = some (.int .i64 tt) := HS.out.cell 1
                have kC0 : v21.cell? ⟨w.heap.size + 1 + 1, 0, none⟩ = some (.int .i64 pu) := HC.out.cell 0
                have jC0 : v21.frozen? ⟨w.heap.size + 1 + 1, 0, none⟩ = false := HC.out.frozen 0
                have kC1 : v21.cell? ⟨w.heap.size + 1 + 1, 1, none⟩ = some (.int .i64 pd) := HC.out.cell 1
                have jC1 : v21.frozen? ⟨w.heap.size + 1 + 1, 1, none⟩ = false := HC.out.frozen 1
                have kC2 : v21.cell? ⟨w.heap.size + 1 + 1, 2, none⟩ = some (.int .i64 po) := HC.out.cell 2
                have jC2 : v21.frozen? ⟨w.heap.size + 1 + 1, 2, none⟩ = false := HC.out.frozen 2
                have kA0 : v21.cell? ⟨b, o + k * 4, none⟩ = some (.int .i64 tk) := HA.out 0 _ rfl
                have kA1 : v21.cell? ⟨b, o + k * 4 + 1, none⟩ = some (.int .i64 pk) := HA.out 1 _ rfl
                have kA2 : v21.cell? ⟨b, o + k * 4 + 2, none⟩ = some (.int .i64 dk) := HA.out 2 _ rfl
                have kA3 : v21.cell? ⟨b, o + k * 4 + 3, none⟩ = some (.bool true) := HA.out 3 _ rfl
                go_wp2_with fail
                clear kL0 kS0 kS1 kC0 jC0 kC1 jC1 kC2 jC2 kA0 kA1 kA2 kA3
                have GL : Blk (v21.setCell ⟨w.heap.size + 1 + 1, 2, none⟩ (.int .i64 po2)) (w.heap.size) 22 #[.slice (some ⟨b, o, none⟩) n c] := (HL.out.far (p := ⟨w.heap.size + 1 + 1, 2, none⟩) ne0_2 (.int .i64 po2))
                have GS : Blk (v21.setCell ⟨w.heap.size + 1 + 1, 2, none⟩ (.int .i64 po2)) (w.heap.size + 1) 24 #[.int .i64 f, .int .i64 tt] := (HS.out.far (p := ⟨w.heap.size + 1 + 1, 2, none⟩) ne1_2 (.int .i64 po2))
                have GC : Blk (v21.setCell ⟨w.heap.size + 1 + 1, 2, none⟩ (.int .i64 po2)) (w.heap.size + 1 + 1) 49 #[.int .i64 pu, .int .i64 pd, .int .i64 po2] := (HC.out.set 2 (.int .i64 po2))
                have GA : At (v21.setCell ⟨w.heap.size + 1 + 1, 2, none⟩ (.int .i64 po2)) b (o + k * 4) #[.int .i64 tk, .int .i64 pk, .int .i64 dk, .bool true] := (HA.out.far (p := ⟨w.heap.size + 1 + 1, 2, none⟩) (by show b ≠ w.heap.size + 1 + 1; omega) (.int .i64 po2))
                have GE : Below w.heap.size w (v21.setCell ⟨w.heap.size + 1 + 1, 2, none⟩ (.int .i64 po2)) := (EE.out.setCell (p := ⟨w.heap.size + 1 + 1, 2, none⟩) (by show w.heap.size ≤ w.heap.size + 1 + 1; omega) (.int .i64 po2))
                obtain ⟨v22, hv22⟩ : ∃ V, (v21.setCell ⟨w.heap.size + 1 + 1, 2, none⟩ (.int .i64 po2)) = V := ⟨_, rfl⟩
                rw [hv22] at GL GS GC GA GE ⊢
                have HL := Lib.hid GL
                have HS := Lib.hid GS
                have HC := Lib.hid GC
                have HA := Lib.hid GA
                have EE := Lib.hid GE
                clear hv22 GL GS GC GA GE
                have kL0 : v22.cell? ⟨w.heap.size, 0, none⟩ = some (.slice (some ⟨b, o, none⟩) n c) := HL.out.cell 0
                have kS0 : v22.cell? ⟨w.heap.size + 1, 0, none⟩ = some (.int .i64 f) := HS.out.cell 0
                have kS1 : v22.cell? ⟨w.heap.size + 1, 1, none⟩ = some (.int .i64 tt) := HS.out.cell 1
                have kC0 : v22.cell? ⟨w.heap.size + 1 + 1, 0, none⟩ = some (.int .i64 pu) := HC.out.cell 0
                have jC0 : v22.frozen? ⟨w.heap.size + 1 + 1, 0, none⟩ = false := HC.out.frozen 0
                have kC1 : v22.cell? ⟨w.heap.size + 1 + 1, 1, none⟩ = some (.int .i64 pd) := HC.out.cell 1
                have jC1 : v22.frozen? ⟨w.heap.size + 1 + 1, 1, none⟩ = false := HC.out.frozen 1
                have kC2 : v22.cell? ⟨w.heap.size + 1 + 1, 2, none⟩ = some (.int .i64 po2) := HC.out.cell 2
                have jC2 : v22.frozen? ⟨w.heap.size + 1 + 1, 2, none⟩ = false := HC.out.frozen 2
                have kA0 : v22.cell? ⟨b, o + k * 4, none⟩ = some (.int .i64 tk) := HA.out 0 _ rfl
                have kA1 : v22.cell? ⟨b, o + k * 4 + 1, none⟩ = some (.int .i64 pk) := HA.out 1 _ rfl
                have kA2 : v22.cell? ⟨b, o + k * 4 + 2, none⟩ = some (.int .i64 dk) := HA.out 2 _ rfl
                have kA3 : v22.cell? ⟨b, o + k * 4 + 3, none⟩ = some (.bool true) := HA.out 3 _ rfl
                go_roundw
                case rel => exact ⟨k + 1, by omega, by go_num, by rw [e1.out, e2.out, e3.out]; exact HC.out, HL.out, HS.out, EE.out⟩
                case measure => simp [intOf]; omega
        · have d1 : decide (tk < tt) = false := decide_eq_false h1
          have HH1 := Lib.hid h1; clear h1
          have kL0 : wr.cell? ⟨w.heap.size, 0, none⟩ = some (.slice (some ⟨b, o, none⟩) n c) := HL.out.cell 0
          have kS0 : wr.cell? ⟨w.heap.size + 1, 0, none⟩ = some (.int .i64 f) := HS.out.cell 0
          have kS1 : wr.cell? ⟨w.heap.size + 1, 1, none⟩ = some (.int .i64 tt) := HS.out.cell 1
          have kC0 : wr.cell? ⟨w.heap.size + 1 + 1, 0, none⟩ = some (.int .i64 pu) := HC.out.cell 0
          have kC1 : wr.cell? ⟨w.heap.size + 1 + 1, 1, none⟩ = some (.int .i64 pd) := HC.out.cell 1
          have kC2 : wr.cell? ⟨w.heap.size + 1 + 1, 2, none⟩ = some (.int .i64 po) := HC.out.cell 2
          have kA0 : wr.cell? ⟨b, o + k * 4, none⟩ = some (.int .i64 tk) := HA.out 0 _ rfl
          have kA1 : wr.cell? ⟨b, o + k * 4 + 1, none⟩ = some (.int .i64 pk) := HA.out 1 _ rfl
          have kA2 : wr.cell? ⟨b, o + k * 4 + 2, none⟩ = some (.int .i64 dk) := HA.out 2 _ rfl
          have kA3 : wr.cell? ⟨b, o + k * 4 + 3, none⟩ = some (.bool ok) := HA.out 3 _ rfl
          go_wp2_with fail
          have sK : ∀ X, Blk X (w.heap.size) 22 #[.slice (some ⟨b, o, none⟩) n c] → Blk X (w.heap.size + 1) 24 #[.int .i64 f, .int .i64 tt] → Blk X (w.heap.size + 1 + 1) 49 #[.int .i64 pu, .int .i64 pd, .int .i64 po] → At X b (o + k * 4) #[.int .i64 tk, .int .i64 pk, .int .i64 dk, .bool ok] → (fun X => X.cell? ⟨w.heap.size, 0, none⟩ = some (.slice (some ⟨b, o, none⟩) n c) ∧ X.cell? ⟨w.heap.size + 1, 0, none⟩ = some (.int .i64 f) ∧ X.cell? ⟨w.heap.size + 1, 1, none⟩ = some (.int .i64 tt) ∧ X.cell? ⟨w.heap.size + 1 + 1, 0, none⟩ = some (.int .i64 pu) ∧ X.cell? ⟨w.heap.size + 1 + 1, 1, none⟩ = some (.int .i64 pd) ∧ X.cell? ⟨w.heap.size + 1 + 1, 2, none⟩ = some (.int .i64 po) ∧ X.cell? ⟨b, o + k * 4, none⟩ = some (.int .i64 tk) ∧ X.cell? ⟨b, o + k * 4 + 1, none⟩ = some (.int .i64 pk) ∧ X.cell? ⟨b, o + k * 4 + 2, none⟩ = some (.int .i64 dk) ∧ X.cell? ⟨b, o + k * 4 + 3, none⟩ = some (.bool ok)) X := fun X hL hS hC hA => ⟨hL.cell 0, hS.cell 0, hS.cell 1, hC.cell 0, hC.cell 1, hC.cell 2, hA 0 _ rfl, hA 1 _ rfl, hA 2 _ rfl, hA 3 _ rfl⟩
          have LL0 := Lib.hid (HL.out.drew)
          have LS0 := Lib.hid (HS.out.drew)
          have LC0 := Lib.hid (HC.out.drew)
          have LA0 := Lib.hid (HA.out.drew)
          have E0 := Lib.hid (EE.out.drew)
          clear kL0 kS0 kS1 kC0 kC1 kC2 kA0 kA1 kA2 kA3
          refine wp_region_held_drew (S := (fun X => X.cell? ⟨w.heap.size, 0, none⟩ = some (.slice (some ⟨b, o, none⟩) n c) ∧ X.cell? ⟨w.heap.size + 1, 0, none⟩ = some (.int .i64 f) ∧ X.cell? ⟨w.heap.size + 1, 1, none⟩ = some (.int .i64 tt) ∧ X.cell? ⟨w.heap.size + 1 + 1, 0, none⟩ = some (.int .i64 pu) ∧ X.cell? ⟨w.heap.size + 1 + 1, 1, none⟩ = some (.int .i64 pd) ∧ X.cell? ⟨w.heap.size + 1 + 1, 2, none⟩ = some (.int .i64 po) ∧ X.cell? ⟨b, o + k * 4, none⟩ = some (.int .i64 tk) ∧ X.cell? ⟨b, o + k * 4 + 1, none⟩ = some (.int .i64 pk) ∧ X.cell? ⟨b, o + k * 4 + 2, none⟩ = some (.int .i64 dk) ∧ X.cell? ⟨b, o + k * 4 + 3, none⟩ = some (.bool ok))) (by kernel_rfl) (sK _ LL0.out LS0.out LC0.out LA0.out) (fun hHeld => ?_)
          clear hHeld
          refine wpAnyH_take (i := 0) (v := ?_) rfl (by kernel_rfl) (by kernel_rfl) (by kernel_rfl) (fun _ _ _ h => h) (Or.inl ⟨by rfl, ?_⟩) (sK _ LL0.out LS0.out LC0.out LA0.out) ?_
          rotate_left
          · (intro wS hSw; (try dsimp only at hSw); go_simp; try with_reducible rfl)
          simp only [Act.put, List.getElem_toArray, List.getElem_cons_zero, List.getElem_cons_succ, List.setIfInBounds_toArray, List.set_cons_zero, List.set_cons_succ]
          refine wpAnyH_take (i := 1) (v := ?_) rfl (by kernel_rfl) (by kernel_rfl) (by kernel_rfl) (fun _ _ _ h => h) (Or.inl ⟨by rfl, ?_⟩) (sK _ LL0.out LS0.out LC0.out LA0.out) ?_
          rotate_left
          · (intro wS hSw; (try dsimp only at hSw); go_simp; try with_reducible rfl)
          simp only [Act.put, List.getElem_toArray, List.getElem_cons_zero, List.getElem_cons_succ, List.setIfInBounds_toArray, List.set_cons_zero, List.set_cons_succ]
          refine wpAnyH_take (i := 2) (v := ?_) rfl (by kernel_rfl) (by kernel_rfl) (by kernel_rfl) (fun _ _ _ h => h) (Or.inl ⟨by rfl, ?_⟩) (sK _ LL0.out LS0.out LC0.out LA0.out) ?_
          rotate_left
          · (intro wS hSw; (try dsimp only at hSw); go_simp; try with_reducible rfl)
          simp only [Act.put, List.getElem_toArray, List.getElem_cons_zero, List.getElem_cons_succ, List.setIfInBounds_toArray, List.set_cons_zero, List.set_cons_succ]
          refine wpAnyH_take (i := 3) (v := ?_) rfl (by kernel_rfl) (by kernel_rfl) (by kernel_rfl) (fun _ _ _ h => h) (Or.inl ⟨by rfl, ?_⟩) (sK _ LL0.out LS0.out LC0.out LA0.out) ?_
          rotate_left
          · (intro wS hSw; (try dsimp only at hSw); go_simp; try with_reducible rfl)
          simp only [Act.put, List.getElem_toArray, List.getElem_cons_zero, List.getElem_cons_succ, List.setIfInBounds_toArray, List.set_cons_zero, List.set_cons_succ]
          refine wpAnyH_take (i := 4) (v := ?_) rfl (by kernel_rfl) (by kernel_rfl) (by kernel_rfl) (fun _ _ _ h => h) (Or.inl ⟨by rfl, ?_⟩) (sK _ LL0.out LS0.out LC0.out LA0.out) ?_
          rotate_left
          · (intro wS hSw; (try dsimp only at hSw); go_simp; try with_reducible rfl)
          simp only [Act.put, List.getElem_toArray, List.getElem_cons_zero, List.getElem_cons_succ, List.setIfInBounds_toArray, List.set_cons_zero, List.set_cons_succ]
          refine wpAnyH_take (i := 5) (v := ?_) rfl (by kernel_rfl) (by kernel_rfl) (by kernel_rfl) (fun _ _ _ h => h) (Or.inl ⟨by rfl, ?_⟩) (sK _ LL0.out LS0.out LC0.out LA0.out) ?_
          rotate_left
          · (intro wS hSw; (try dsimp only at hSw); go_simp; try with_reducible rfl)
          simp only [Act.put, List.getElem_toArray, List.getElem_cons_zero, List.getElem_cons_succ, List.setIfInBounds_toArray, List.set_cons_zero, List.set_cons_succ]
          refine wpAnyH_take (i := 6) (v := ?_) rfl (by kernel_rfl) (by kernel_rfl) (by kernel_rfl) (fun _ _ _ h => h) (Or.inl ⟨by rfl, ?_⟩) (sK _ LL0.out LS0.out LC0.out LA0.out) ?_
          rotate_left
          · (intro wS hSw; (try dsimp only at hSw); go_simp; try with_reducible rfl)
          simp only [Act.put, List.getElem_toArray, List.getElem_cons_zero, List.getElem_cons_succ, List.setIfInBounds_toArray, List.set_cons_zero, List.set_cons_succ]
          refine wpAnyH_take (i := 7) (v := ?_) rfl (by kernel_rfl) (by kernel_rfl) (by kernel_rfl) (fun _ _ _ h => h) (Or.inl ⟨by rfl, ?_⟩) (sK _ LL0.out LS0.out LC0.out LA0.out) ?_
          rotate_left
          · (intro wS hSw; (try dsimp only at hSw); go_simp; try with_reducible rfl)
          simp only [Act.put, List.getElem_toArray, List.getElem_cons_zero, List.getElem_cons_succ, List.setIfInBounds_toArray, List.set_cons_zero, List.set_cons_succ]
          refine wpAnyH_take (i := 8) (v := ?_) rfl (by kernel_rfl) (by kernel_rfl) (by kernel_rfl) (fun _ _ _ h => h) (Or.inl ⟨by rfl, ?_⟩) (sK _ LL0.out LS0.out LC0.out LA0.out) ?_
          rotate_left
          · (intro wS hSw; (try dsimp only at hSw); go_simp; try with_reducible rfl)
          simp only [Act.put, List.getElem_toArray, List.getElem_cons_zero, List.getElem_cons_succ, List.setIfInBounds_toArray, List.set_cons_zero, List.set_cons_succ]
          refine wpAnyH_take (i := 9) (v := ?_) rfl (by kernel_rfl) (by kernel_rfl) (by kernel_rfl) (fun _ _ _ h => h) (Or.inl ⟨by rfl, ?_⟩) (sK _ LL0.out LS0.out LC0.out LA0.out) ?_
          rotate_left
          · (intro wS hSw; (try dsimp only at hSw); go_simp; try with_reducible rfl)
          simp only [Act.put, List.getElem_toArray, List.getElem_cons_zero, List.getElem_cons_succ, List.setIfInBounds_toArray, List.set_cons_zero, List.set_cons_succ]
          refine wpAnyH_take (i := 10) (v := ?_) rfl (by kernel_rfl) (by kernel_rfl) (by kernel_rfl) (fun _ _ _ h => h) (Or.inl ⟨by rfl, ?_⟩) (sK _ LL0.out LS0.out LC0.out LA0.out) ?_
          rotate_left
          · (intro wS hSw; (try dsimp only at hSw); go_simp; try with_reducible rfl)
          simp only [Act.put, List.getElem_toArray, List.getElem_cons_zero, List.getElem_cons_succ, List.setIfInBounds_toArray, List.set_cons_zero, List.set_cons_succ]
          refine wpAnyH_take (i := 11) (v := ?_) rfl (by kernel_rfl) (by kernel_rfl) (by kernel_rfl) (fun _ _ _ h => h) (Or.inl ⟨by rfl, ?_⟩) (sK _ LL0.out LS0.out LC0.out LA0.out) ?_
          rotate_left
          · (intro wS hSw; (try dsimp only at hSw); go_simp; try with_reducible rfl)
          simp only [Act.put, List.getElem_toArray, List.getElem_cons_zero, List.getElem_cons_succ, List.setIfInBounds_toArray, List.set_cons_zero, List.set_cons_succ]
          refine wpAnyH_take (i := 12) (v := ?_) rfl (by kernel_rfl) (by kernel_rfl) (by kernel_rfl) (fun _ _ _ h => h) (Or.inl ⟨by rfl, ?_⟩) (sK _ LL0.out LS0.out LC0.out LA0.out) ?_
          rotate_left
          · (intro wS hSw; (try dsimp only at hSw); go_simp; try with_reducible rfl)
          simp only [Act.put, List.getElem_toArray, List.getElem_cons_zero, List.getElem_cons_succ, List.setIfInBounds_toArray, List.set_cons_zero, List.set_cons_succ]
          refine wpAnyH_take (i := 13) (v := ?_) rfl (by kernel_rfl) (by kernel_rfl) (by kernel_rfl) (fun _ _ _ h => h) (Or.inl ⟨by rfl, ?_⟩) (sK _ LL0.out LS0.out LC0.out LA0.out) ?_
          rotate_left
          · (intro wS hSw; (try dsimp only at hSw); go_simp; try with_reducible rfl)
          simp only [Act.put, List.getElem_toArray, List.getElem_cons_zero, List.getElem_cons_succ, List.setIfInBounds_toArray, List.set_cons_zero, List.set_cons_succ]
          refine wpAnyH_done (by kernel_rfl) ?_ _
          have HL := LL0
          have HS := LS0
          have HC := LC0
          have HA := LA0
          have EE := E0
          have kL0 : wr.drew.cell? ⟨w.heap.size, 0, none⟩ = some (.slice (some ⟨b, o, none⟩) n c) := HL.out.cell 0
          have kS0 : wr.drew.cell? ⟨w.heap.size + 1, 0, none⟩ = some (.int .i64 f) := HS.out.cell 0
          have kS1 : wr.drew.cell? ⟨w.heap.size + 1, 1, none⟩ = some (.int .i64 tt) := HS.out.cell 1
          have kC0 : wr.drew.cell? ⟨w.heap.size + 1 + 1, 0, none⟩ = some (.int .i64 pu) := HC.out.cell 0
          have kC1 : wr.drew.cell? ⟨w.heap.size + 1 + 1, 1, none⟩ = some (.int .i64 pd) := HC.out.cell 1
          have kC2 : wr.drew.cell? ⟨w.heap.size + 1 + 1, 2, none⟩ = some (.int .i64 po) := HC.out.cell 2
          have kA0 : wr.drew.cell? ⟨b, o + k * 4, none⟩ = some (.int .i64 tk) := HA.out 0 _ rfl
          have kA1 : wr.drew.cell? ⟨b, o + k * 4 + 1, none⟩ = some (.int .i64 pk) := HA.out 1 _ rfl
          have kA2 : wr.drew.cell? ⟨b, o + k * 4 + 2, none⟩ = some (.int .i64 dk) := HA.out 2 _ rfl
          have kA3 : wr.drew.cell? ⟨b, o + k * 4 + 3, none⟩ = some (.bool ok) := HA.out 3 _ rfl
          go_wp2_with fail
          have sK : ∀ X, Blk X (w.heap.size + 1 + 1) 49 #[.int .i64 pu, .int .i64 pd, .int .i64 po] → (fun X => X.cell? ⟨w.heap.size + 1 + 1, 0, none⟩ = some (.int .i64 pu) ∧ X.cell? ⟨w.heap.size + 1 + 1, 1, none⟩ = some (.int .i64 pd) ∧ X.cell? ⟨w.heap.size + 1 + 1, 2, none⟩ = some (.int .i64 po)) X := fun X hC => ⟨hC.cell 0, hC.cell 1, hC.cell 2⟩
          have LC0 := Lib.hid (HC.out.drew)
          have E0 := Lib.hid (EE.out.drew)
          clear kL0 kS0 kS1 kC0 kC1 kC2 kA0 kA1 kA2 kA3
          refine wp_region_held_drew (S := (fun X => X.cell? ⟨w.heap.size + 1 + 1, 0, none⟩ = some (.int .i64 pu) ∧ X.cell? ⟨w.heap.size + 1 + 1, 1, none⟩ = some (.int .i64 pd) ∧ X.cell? ⟨w.heap.size + 1 + 1, 2, none⟩ = some (.int .i64 po))) (by kernel_rfl) (sK _ LC0.out) (fun hHeld => ?_)
          clear hHeld
          refine wpAnyH_take (i := 0) (v := ?_) rfl (by kernel_rfl) (by kernel_rfl) (by kernel_rfl) (fun _ _ _ h => h) (Or.inl ⟨by rfl, ?_⟩) (sK _ LC0.out) ?_
          rotate_left
          · (intro wS hSw; (try dsimp only at hSw); go_simp; try with_reducible rfl)
          simp only [Act.put, List.getElem_toArray, List.getElem_cons_zero, List.getElem_cons_succ, List.setIfInBounds_toArray, List.set_cons_zero, List.set_cons_succ]
          refine wpAnyH_take (i := 1) (v := ?_) rfl (by kernel_rfl) (by kernel_rfl) (by kernel_rfl) (fun _ _ _ h => h) (Or.inl ⟨by rfl, ?_⟩) (sK _ LC0.out) ?_
          rotate_left
          · (intro wS hSw; (try dsimp only at hSw); go_simp; try with_reducible rfl)
          simp only [Act.put, List.getElem_toArray, List.getElem_cons_zero, List.getElem_cons_succ, List.setIfInBounds_toArray, List.set_cons_zero, List.set_cons_succ]
          refine wpAnyH_take (i := 2) (v := ?_) rfl (by kernel_rfl) (by kernel_rfl) (by kernel_rfl) (fun _ _ _ h => h) (Or.inl ⟨by rfl, ?_⟩) (sK _ LC0.out) ?_
          rotate_left
          · (intro wS hSw; (try dsimp only at hSw); go_simp; try with_reducible rfl)
          simp only [Act.put, List.getElem_toArray, List.getElem_cons_zero, List.getElem_cons_succ, List.setIfInBounds_toArray, List.set_cons_zero, List.set_cons_succ]
          refine wpAnyH_take (i := 3) (v := ?_) rfl (by kernel_rfl) (by kernel_rfl) (by kernel_rfl) (fun _ _ _ h => h) (Or.inl ⟨by rfl, ?_⟩) (sK _ LC0.out) ?_
          rotate_left
          · (intro wS hSw; (try dsimp only at hSw); go_simp; try with_reducible rfl)
          simp only [Act.put, List.getElem_toArray, List.getElem_cons_zero, List.getElem_cons_succ, List.setIfInBounds_toArray, List.set_cons_zero, List.set_cons_succ]
          refine wpAnyH_take (i := 4) (v := ?_) rfl (by kernel_rfl) (by kernel_rfl) (by kernel_rfl) (fun _ _ _ h => h) (Or.inl ⟨by rfl, ?_⟩) (sK _ LC0.out) ?_
          rotate_left
          · (intro wS hSw; (try dsimp only at hSw); go_simp; try with_reducible rfl)
          simp only [Act.put, List.getElem_toArray, List.getElem_cons_zero, List.getElem_cons_succ, List.setIfInBounds_toArray, List.set_cons_zero, List.set_cons_succ]
          refine wpAnyH_take (i := 5) (v := ?_) rfl (by kernel_rfl) (by kernel_rfl) (by kernel_rfl) (fun _ _ _ h => h) (Or.inl ⟨by rfl, ?_⟩) (sK _ LC0.out) ?_
          rotate_left
          · (intro wS hSw; (try dsimp only at hSw); go_simp; try with_reducible rfl)
          simp only [Act.put, List.getElem_toArray, List.getElem_cons_zero, List.getElem_cons_succ, List.setIfInBounds_toArray, List.set_cons_zero, List.set_cons_succ]
          refine wpAnyH_take (i := 6) (v := ?_) rfl (by kernel_rfl) (by kernel_rfl) (by kernel_rfl) (fun _ _ _ h => h) (Or.inl ⟨by rfl, ?_⟩) (sK _ LC0.out) ?_
          rotate_left
          · (intro wS hSw; (try dsimp only at hSw); go_simp; try with_reducible rfl)
          simp only [Act.put, List.getElem_toArray, List.getElem_cons_zero, List.getElem_cons_succ, List.setIfInBounds_toArray, List.set_cons_zero, List.set_cons_succ]
          refine wpAnyH_take (i := 7) (v := ?_) rfl (by kernel_rfl) (by kernel_rfl) (by kernel_rfl) (fun _ _ _ h => h) (Or.inl ⟨by rfl, ?_⟩) (sK _ LC0.out) ?_
          rotate_left
          · (intro wS hSw; (try dsimp only at hSw); go_simp; try with_reducible rfl)
          simp only [Act.put, List.getElem_toArray, List.getElem_cons_zero, List.getElem_cons_succ, List.setIfInBounds_toArray, List.set_cons_zero, List.set_cons_succ]
          refine wpAnyH_take (i := 8) (v := ?_) rfl (by kernel_rfl) (by kernel_rfl) (by kernel_rfl) (fun _ _ _ h => h) (Or.inl ⟨by rfl, ?_⟩) (sK _ LC0.out) ?_
          rotate_left
          · (intro wS hSw; (try dsimp only at hSw); go_simp; try with_reducible rfl)
          simp only [Act.put, List.getElem_toArray, List.getElem_cons_zero, List.getElem_cons_succ, List.setIfInBounds_toArray, List.set_cons_zero, List.set_cons_succ]
          refine wpAnyH_done (by kernel_rfl) ?_ _
          go_wp2_with fail
          go_ret3
          have hq := HEE.out k _ (fun _ => by rw [HTK.out]; have := HH1.out; omega) E0.out
          rw [Hpu.out, Hpd.out, Hpo.out] at hq
          exact hq
      · have dk : decide ((k : Int) < (n : Int)) = false := decide_eq_false (by omega)
        have kL0 : wr.cell? ⟨w.heap.size, 0, none⟩ = some (.slice A n c) := HL.out.cell 0
        have kS0 : wr.cell? ⟨w.heap.size + 1, 0, none⟩ = some (.int .i64 f) := HS.out.cell 0
        have kS1 : wr.cell? ⟨w.heap.size + 1, 1, none⟩ = some (.int .i64 tt) := HS.out.cell 1
        have kC0 : wr.cell? ⟨w.heap.size + 1 + 1, 0, none⟩ = some (.int .i64 pu) := HC.out.cell 0
        have kC1 : wr.cell? ⟨w.heap.size + 1 + 1, 1, none⟩ = some (.int .i64 pd) := HC.out.cell 1
        have kC2 : wr.cell? ⟨w.heap.size + 1 + 1, 2, none⟩ = some (.int .i64 po) := HC.out.cell 2
        go_wp2_with fail
        have sK : ∀ X, Blk X (w.heap.size) 22 #[.slice A n c] → Blk X (w.heap.size + 1) 24 #[.int .i64 f, .int .i64 tt] → Blk X (w.heap.size + 1 + 1) 49 #[.int .i64 pu, .int .i64 pd, .int .i64 po] → (fun X => X.cell? ⟨w.heap.size, 0, none⟩ = some (.slice A n c) ∧ X.cell? ⟨w.heap.size + 1, 0, none⟩ = some (.int .i64 f) ∧ X.cell? ⟨w.heap.size + 1, 1, none⟩ = some (.int .i64 tt) ∧ X.cell? ⟨w.heap.size + 1 + 1, 0, none⟩ = some (.int .i64 pu) ∧ X.cell? ⟨w.heap.size + 1 + 1, 1, none⟩ = some (.int .i64 pd) ∧ X.cell? ⟨w.heap.size + 1 + 1, 2, none⟩ = some (.int .i64 po)) X := fun X hL hS hC => ⟨hL.cell 0, hS.cell 0, hS.cell 1, hC.cell 0, hC.cell 1, hC.cell 2⟩
        have LL0 := Lib.hid (HL.out.drew)
        have LS0 := Lib.hid (HS.out.drew)
        have LC0 := Lib.hid (HC.out.drew)
        have E0 := Lib.hid (EE.out.drew)
        clear kL0 kS0 kS1 kC0 kC1 kC2
        refine wp_region_held_drew (S := (fun X => X.cell? ⟨w.heap.size, 0, none⟩ = some (.slice A n c) ∧ X.cell? ⟨w.heap.size + 1, 0, none⟩ = some (.int .i64 f) ∧ X.cell? ⟨w.heap.size + 1, 1, none⟩ = some (.int .i64 tt) ∧ X.cell? ⟨w.heap.size + 1 + 1, 0, none⟩ = some (.int .i64 pu) ∧ X.cell? ⟨w.heap.size + 1 + 1, 1, none⟩ = some (.int .i64 pd) ∧ X.cell? ⟨w.heap.size + 1 + 1, 2, none⟩ = some (.int .i64 po))) (by kernel_rfl) (sK _ LL0.out LS0.out LC0.out) (fun hHeld => ?_)
        clear hHeld
        refine wpAnyH_take (i := 0) (v := ?_) rfl (by kernel_rfl) (by kernel_rfl) (by kernel_rfl) (fun _ _ _ h => h) (Or.inl ⟨by rfl, ?_⟩) (sK _ LL0.out LS0.out LC0.out) ?_
        rotate_left
        · (intro wS hSw; (try dsimp only at hSw); go_simp; try with_reducible rfl)
        simp only [Act.put, List.getElem_toArray, List.getElem_cons_zero, List.getElem_cons_succ, List.setIfInBounds_toArray, List.set_cons_zero, List.set_cons_succ]
        refine wpAnyH_take (i := 1) (v := ?_) rfl (by kernel_rfl) (by kernel_rfl) (by kernel_rfl) (fun _ _ _ h => h) (Or.inl ⟨by rfl, ?_⟩) (sK _ LL0.out LS0.out LC0.out) ?_
        rotate_left
        · (intro wS hSw; (try dsimp only at hSw); go_simp; try with_reducible rfl)
        simp only [Act.put, List.getElem_toArray, List.getElem_cons_zero, List.getElem_cons_succ, List.setIfInBounds_toArray, List.set_cons_zero, List.set_cons_succ]
        refine wpAnyH_take (i := 2) (v := ?_) rfl (by kernel_rfl) (by kernel_rfl) (by kernel_rfl) (fun _ _ _ h => h) (Or.inl ⟨by rfl, ?_⟩) (sK _ LL0.out LS0.out LC0.out) ?_
        rotate_left
        · (intro wS hSw; (try dsimp only at hSw); go_simp; try with_reducible rfl)
        simp only [Act.put, List.getElem_toArray, List.getElem_cons_zero, List.getElem_cons_succ, List.setIfInBounds_toArray, List.set_cons_zero, List.set_cons_succ]
        refine wpAnyH_take (i := 3) (v := ?_) rfl (by kernel_rfl) (by kernel_rfl) (by kernel_rfl) (fun _ _ _ h => h) (Or.inl ⟨by rfl, ?_⟩) (sK _ LL0.out LS0.out LC0.out) ?_
        rotate_left
        · (intro wS hSw; (try dsimp only at hSw); go_simp; try with_reducible rfl)
        simp only [Act.put, List.getElem_toArray, List.getElem_cons_zero, List.getElem_cons_succ, List.setIfInBounds_toArray, List.set_cons_zero, List.set_cons_succ]
        refine wpAnyH_take (i := 4) (v := ?_) rfl (by kernel_rfl) (by kernel_rfl) (by kernel_rfl) (fun _ _ _ h => h) (Or.inl ⟨by rfl, ?_⟩) (sK _ LL0.out LS0.out LC0.out) ?_
        rotate_left
        · (intro wS hSw; (try dsimp only at hSw); go_simp; try with_reducible rfl)
        simp only [Act.put, List.getElem_toArray, List.getElem_cons_zero, List.getElem_cons_succ, List.setIfInBounds_toArray, List.set_cons_zero, List.set_cons_succ]
        refine wpAnyH_take (i := 5) (v := undef) rfl (by kernel_rfl) (by kernel_rfl) (by kernel_rfl) (fun _ _ _ h => h) (Or.inr ⟨by kernel_rfl, rfl⟩) (sK _ LL0.out LS0.out LC0.out) ?_
        simp only [Act.put, List.getElem_toArray, List.getElem_cons_zero, List.getElem_cons_succ, List.setIfInBounds_toArray, List.set_cons_zero, List.set_cons_succ]
        refine wpAnyH_take (i := 6) (v := undef) rfl (by kernel_rfl) (by kernel_rfl) (by kernel_rfl) (fun _ _ _ h => h) (Or.inr ⟨by kernel_rfl, rfl⟩) (sK _ LL0.out LS0.out LC0.out) ?_
        simp only [Act.put, List.getElem_toArray, List.getElem_cons_zero, List.getElem_cons_succ, List.setIfInBounds_toArray, List.set_cons_zero, List.set_cons_succ]
        refine wpAnyH_take (i := 7) (v := undef) rfl (by kernel_rfl) (by kernel_rfl) (by kernel_rfl) (fun _ _ _ h => h) (Or.inr ⟨by kernel_rfl, rfl⟩) (sK _ LL0.out LS0.out LC0.out) ?_
        simp only [Act.put, List.getElem_toArray, List.getElem_cons_zero, List.getElem_cons_succ, List.setIfInBounds_toArray, List.set_cons_zero, List.set_cons_succ]
        refine wpAnyH_take (i := 8) (v := undef) rfl (by kernel_rfl) (by kernel_rfl) (by kernel_rfl) (fun _ _ _ h => h) (Or.inr ⟨by kernel_rfl, rfl⟩) (sK _ LL0.out LS0.out LC0.out) ?_
        simp only [Act.put, List.getElem_toArray, List.getElem_cons_zero, List.getElem_cons_succ, List.setIfInBounds_toArray, List.set_cons_zero, List.set_cons_succ]
        refine wpAnyH_take (i := 9) (v := undef) rfl (by kernel_rfl) (by kernel_rfl) (by kernel_rfl) (fun _ _ _ h => h) (Or.inr ⟨by kernel_rfl, rfl⟩) (sK _ LL0.out LS0.out LC0.out) ?_
        simp only [Act.put, List.getElem_toArray, List.getElem_cons_zero, List.getElem_cons_succ, List.setIfInBounds_toArray, List.set_cons_zero, List.set_cons_succ]
        refine wpAnyH_take (i := 10) (v := undef) rfl (by kernel_rfl) (by kernel_rfl) (by kernel_rfl) (fun _ _ _ h => h) (Or.inr ⟨by kernel_rfl, rfl⟩) (sK _ LL0.out LS0.out LC0.out) ?_
        simp only [Act.put, List.getElem_toArray, List.getElem_cons_zero, List.getElem_cons_succ, List.setIfInBounds_toArray, List.set_cons_zero, List.set_cons_succ]
        refine wpAnyH_take (i := 11) (v := undef) rfl (by kernel_rfl) (by kernel_rfl) (by kernel_rfl) (fun _ _ _ h => h) (Or.inr ⟨by kernel_rfl, rfl⟩) (sK _ LL0.out LS0.out LC0.out) ?_
        simp only [Act.put, List.getElem_toArray, List.getElem_cons_zero, List.getElem_cons_succ, List.setIfInBounds_toArray, List.set_cons_zero, List.set_cons_succ]
        refine wpAnyH_take (i := 12) (v := undef) rfl (by kernel_rfl) (by kernel_rfl) (by kernel_rfl) (fun _ _ _ h => h) (Or.inr ⟨by kernel_rfl, rfl⟩) (sK _ LL0.out LS0.out LC0.out) ?_
        simp only [Act.put, List.getElem_toArray, List.getElem_cons_zero, List.getElem_cons_succ, List.setIfInBounds_toArray, List.set_cons_zero, List.set_cons_succ]
        refine wpAnyH_take (i := 13) (v := ?_) rfl (by kernel_rfl) (by kernel_rfl) (by kernel_rfl) (fun _ _ _ h => h) (Or.inl ⟨by rfl, ?_⟩) (sK _ LL0.out LS0.out LC0.out) ?_
        rotate_left
        · (intro wS hSw; (try dsimp only at hSw); go_simp; try with_reducible rfl)
        simp only [Act.put, List.getElem_toArray, List.getElem_cons_zero, List.getElem_cons_succ, List.setIfInBounds_toArray, List.set_cons_zero, List.set_cons_succ]
        refine wpAnyH_done (by kernel_rfl) ?_ _
        have HL := LL0
        have HS := LS0
        have HC := LC0
        have EE := E0
        have kL0 : wr.drew.cell? ⟨w.heap.size, 0, none⟩ = some (.slice A n c) := HL.out.cell 0
        have kS0 : wr.drew.cell? ⟨w.heap.size + 1, 0, none⟩ = some (.int .i64 f) := HS.out.cell 0
        have kS1 : wr.drew.cell? ⟨w.heap.size + 1, 1, none⟩ = some (.int .i64 tt) := HS.out.cell 1
        have kC0 : wr.drew.cell? ⟨w.heap.size + 1 + 1, 0, none⟩ = some (.int .i64 pu) := HC.out.cell 0
        have kC1 : wr.drew.cell? ⟨w.heap.size + 1 + 1, 1, none⟩ = some (.int .i64 pd) := HC.out.cell 1
        have kC2 : wr.drew.cell? ⟨w.heap.size + 1 + 1, 2, none⟩ = some (.int .i64 po) := HC.out.cell 2
        go_wp2_with fail
        have sK : ∀ X, Blk X (w.heap.size + 1 + 1) 49 #[.int .i64 pu, .int .i64 pd, .int .i64 po] → (fun X => X.cell? ⟨w.heap.size + 1 + 1, 0, none⟩ = some (.int .i64 pu) ∧ X.cell? ⟨w.heap.size + 1 + 1, 1, none⟩ = some (.int .i64 pd) ∧ X.cell? ⟨w.heap.size + 1 + 1, 2, none⟩ = some (.int .i64 po)) X := fun X hC => ⟨hC.cell 0, hC.cell 1, hC.cell 2⟩
        have LC0 := Lib.hid (HC.out.drew)
        have E0 := Lib.hid (EE.out.drew)
        clear kL0 kS0 kS1 kC0 kC1 kC2
        refine wp_region_held_drew (S := (fun X => X.cell? ⟨w.heap.size + 1 + 1, 0, none⟩ = some (.int .i64 pu) ∧ X.cell? ⟨w.heap.size + 1 + 1, 1, none⟩ = some (.int .i64 pd) ∧ X.cell? ⟨w.heap.size + 1 + 1, 2, none⟩ = some (.int .i64 po))) (by kernel_rfl) (sK _ LC0.out) (fun hHeld => ?_)
        clear hHeld
        refine wpAnyH_take (i := 0) (v := ?_) rfl (by kernel_rfl) (by kernel_rfl) (by kernel_rfl) (fun _ _ _ h => h) (Or.inl ⟨by rfl, ?_⟩) (sK _ LC0.out) ?_
        rotate_left
        · (intro wS hSw; (try dsimp only at hSw); go_simp; try with_reducible rfl)
        simp only [Act.put, List.getElem_toArray, List.getElem_cons_zero, List.getElem_cons_succ, List.setIfInBounds_toArray, List.set_cons_zero, List.set_cons_succ]
        refine wpAnyH_take (i := 1) (v := ?_) rfl (by kernel_rfl) (by kernel_rfl) (by kernel_rfl) (fun _ _ _ h => h) (Or.inl ⟨by rfl, ?_⟩) (sK _ LC0.out) ?_
        rotate_left
        · (intro wS hSw; (try dsimp only at hSw); go_simp; try with_reducible rfl)
        simp only [Act.put, List.getElem_toArray, List.getElem_cons_zero, List.getElem_cons_succ, List.setIfInBounds_toArray, List.set_cons_zero, List.set_cons_succ]
        refine wpAnyH_take (i := 2) (v := ?_) rfl (by kernel_rfl) (by kernel_rfl) (by kernel_rfl) (fun _ _ _ h => h) (Or.inl ⟨by rfl, ?_⟩) (sK _ LC0.out) ?_
        rotate_left
        · (intro wS hSw; (try dsimp only at hSw); go_simp; try with_reducible rfl)
        simp only [Act.put, List.getElem_toArray, List.getElem_cons_zero, List.getElem_cons_succ, List.setIfInBounds_toArray, List.set_cons_zero, List.set_cons_succ]
        refine wpAnyH_take (i := 3) (v := ?_) rfl (by kernel_rfl) (by kernel_rfl) (by kernel_rfl) (fun _ _ _ h => h) (Or.inl ⟨by rfl, ?_⟩) (sK _ LC0.out) ?_
        rotate_left
        · (intro wS hSw; (try dsimp only at hSw); go_simp; try with_reducible rfl)
        simp only [Act.put, List.getElem_toArray, List.getElem_cons_zero, List.getElem_cons_succ, List.setIfInBounds_toArray, List.set_cons_zero, List.set_cons_succ]
        refine wpAnyH_take (i := 4) (v := ?_) rfl (by kernel_rfl) (by kernel_rfl) (by kernel_rfl) (fun _ _ _ h => h) (Or.inl ⟨by rfl, ?_⟩) (sK _ LC0.out) ?_
        rotate_left
        · (intro wS hSw; (try dsimp only at hSw); go_simp; try with_reducible rfl)
        simp only [Act.put, List.getElem_toArray, List.getElem_cons_zero, List.getElem_cons_succ, List.setIfInBounds_toArray, List.set_cons_zero, List.set_cons_succ]
        refine wpAnyH_take (i := 5) (v := ?_) rfl (by kernel_rfl) (by kernel_rfl) (by kernel_rfl) (fun _ _ _ h => h) (Or.inl ⟨by rfl, ?_⟩) (sK _ LC0.out) ?_
        rotate_left
        · (intro wS hSw; (try dsimp only at hSw); go_simp; try with_reducible rfl)
        simp only [Act.put, List.getElem_toArray, List.getElem_cons_zero, List.getElem_cons_succ, List.setIfInBounds_toArray, List.set_cons_zero, List.set_cons_succ]
        refine wpAnyH_take (i := 6) (v := ?_) rfl (by kernel_rfl) (by kernel_rfl) (by kernel_rfl) (fun _ _ _ h => h) (Or.inl ⟨by rfl, ?_⟩) (sK _ LC0.out) ?_
        rotate_left
        · (intro wS hSw; (try dsimp only at hSw); go_simp; try with_reducible rfl)
        simp only [Act.put, List.getElem_toArray, List.getElem_cons_zero, List.getElem_cons_succ, List.setIfInBounds_toArray, List.set_cons_zero, List.set_cons_succ]
        refine wpAnyH_take (i := 7) (v := ?_) rfl (by kernel_rfl) (by kernel_rfl) (by kernel_rfl) (fun _ _ _ h => h) (Or.inl ⟨by rfl, ?_⟩) (sK _ LC0.out) ?_
        rotate_left
        · (intro wS hSw; (try dsimp only at hSw); go_simp; try with_reducible rfl)
        simp only [Act.put, List.getElem_toArray, List.getElem_cons_zero, List.getElem_cons_succ, List.setIfInBounds_toArray, List.set_cons_zero, List.set_cons_succ]
        refine wpAnyH_take (i := 8) (v := ?_) rfl (by kernel_rfl) (by kernel_rfl) (by kernel_rfl) (fun _ _ _ h => h) (Or.inl ⟨by rfl, ?_⟩) (sK _ LC0.out) ?_
        rotate_left
        · (intro wS hSw; (try dsimp only at hSw); go_simp; try with_reducible rfl)
        simp only [Act.put, List.getElem_toArray, List.getElem_cons_zero, List.getElem_cons_succ, List.setIfInBounds_toArray, List.set_cons_zero, List.set_cons_succ]
        refine wpAnyH_done (by kernel_rfl) ?_ _
        go_wp2_with fail
        go_ret3
        have hq := HEE.out k _ (fun h' => absurd h' h) E0.out
        rw [Hpu.out, Hpd.out, Hpo.out] at hq
        exact hq
end Go.Proofs.Ytodfjghgcphhhaa
