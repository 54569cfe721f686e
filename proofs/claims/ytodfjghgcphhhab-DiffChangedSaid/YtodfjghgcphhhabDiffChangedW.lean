/- The walk of DiffChanged: it answers true for every input, and leaves all old blocks as they were. No condition. -/
import Derived.Test.YtodfjghgcphhhabRows
import Derived.Test.YtodfjghgcphhhabRowKit
import Derived.Test.YtodfjghgcphhhabRowS
import Derived.Test.YtodfjghgcphhhabRowZ
import Derived.Test.YtodfjghgcphhhabSlicesEq
import Derived.Test.YtodfjghgcphhhabSlicesEqM
import Derived.Test.YtodfjghgcphhhabRowL
import Derived.Test.YtodfjghgcphhhabMakeI
import Derived.Test.YtodfjghgcphhhabBlocks
import Derived.Test.YtodfjghgcphhhabAtKit
import Derived.Test.YtodfjghgcphhhabChgA
import Derived.Test.YtodfjghgcphhhabDiffAl
import Derived.WalkKit
import Derived.ProofKit
import Derived.OpenShut
import Derived.Deep.QuietTactic
import Derived.BigQuiet
import Derived.Lib.SmallJoins
import Derived.Lib.Hide
import Derived.WalkSpells
import Derived.WalkLawsBesides
import Derived.Laws.OwnMore
import Derived.Laws.MakeOwn
import Derived.Laws.CopyOwn
import Derived.OwnWalk
import Derived.BigRegion
import Derived.Deep.LoopGhost
import Derived.Deep.RegionHeld3
import Derived.IntWalk
namespace Go.Proofs.Ytodfjghgcphhhab.diffChanged
open Go.ChangeShapes Go.WideShapes Go.ChangeAt Go.RowKit Go.Joins
set_option linter.unusedSimpArgs false
set_option linter.unusedVariables false

set_option maxRecDepth 100000 in
set_option maxHeartbeats 20000000 in
theorem walk_f (A B : Option Addr) (c d n m : Nat) (z z' : Nat → Nat → Int) (w : World) (ha : RdZ w 7 A n z) (hb : RdZ w 7 B m z') (hl : n ≤ 9223372036854775807) (hl2 : m ≤ 9223372036854775807) :
    Calls Try.prog 5 #[.slice A n c, .slice B m d] w fun e w' => e = .returned (.bool true) ∧ Below w.heap.size w w' := by
  obtain ⟨i0, hi, hz0, hz1, hz2⟩ := info_parts mkInfo
  have HR := Lib.hid ha; have HQ := Lib.hid hb
  have HOK2 := Lib.hid (okZ0 hb)
  have AL := Lib.hid alive_any
  by_cases g1 : 100 < n
  · have gi : (100 : Int) < (n : Int) := by omega
    clear ha hb
    go_enter Try.func5, Try.ntmps5
    go_wp2_with fail
    go_ret
    exact ⟨rfl, Below.refl _ _⟩
  have gi : ¬ (100 : Int) < (n : Int) := by omega
  by_cases g2 : 100 < m
  · have gj : (100 : Int) < (m : Int) := by omega
    clear ha hb
    go_enter Try.func5, Try.ntmps5
    go_wp2_with fail
    go_ret
    exact ⟨rfl, Below.refl _ _⟩
  have gj : ¬ (100 : Int) < (m : Int) := by omega
  have hn : n ≤ 100 := by omega
  have hm : m ≤ 100 := by omega
  have KC := Lib.hid (fun W ha hb => changed_any A B c d n m z z' W ha hb hn hm)
  have HWF : Hid (∀ i, i < (chL z n z' m).length → (Lit.int .i64 (zat (chL z n z' m) i)).wf = true) := Lib.hid fun i hi => by
    have hmem : zat (chL z n z' m) i ∈ chL z n z' m := by unfold zat; rw [List.getD_eq_getElem?_getD, List.getElem?_eq_getElem hi]; exact List.getElem_mem hi
    obtain ⟨j, hj, e⟩ := chL_mem z n z' m _ hmem
    rw [← e]; exact HOK2.out j hj
  clear ha hb g1 g2
  go_enter Try.func5, Try.ntmps5
  go_wp2_with fail
  go_loopw [5, 6] (fun v i wr => ∃ k : Nat, k ≤ m ∧ i = .int .i64 k ∧ wr.ownsRow w.heap.size 3 1 v (chL z n z' k).length ((chL z n z' k).map (Value.int .i64)) ∧ Below w.heap.size w wr) (fun _ i _ => m - (intOf i).toNat)
  case atStart => exact ⟨0, by omega, rfl, ⟨rfl, Or.inl ⟨rfl, rfl⟩⟩, Below.refl _ _⟩
  case round =>
    obtain ⟨i, hi', rfl, hrow, hB⟩ := hrel
    have RW := Lib.hid hrow; have EE := Lib.hid hB
    clear hrow hB
    by_cases h : i < m
    case neg =>
      obtain rfl : m = i := by omega
      go_wp2_with fail
      refine (KC.out _ (RdZ.kept HR.out EE.out) (RdZ.kept HQ.out EE.out)).mono ?_
      rintro e v1 ⟨u, rfl, hown1, hb⟩
      have hown2 := mkOwn_below RW.out hb
      have E1 := Lib.hid (EE.out.trans (hb.mono EE.out.size))
      obtain ⟨A1, c1, e1, r1⟩ := ownR_rd hown1 HWF.out
      obtain ⟨A2, c2, e2, r2⟩ := ownR_rd hown2 HWF.out
      subst e1; subst e2
      have ln := chL_len z n z' m
      have KE := Lib.hid (equal_int A1 A2 c1 c2 _ v1 r1 r2 (by omega))
      clear hown1 hown2 hb r1 r2
      go_wp2_with fail
      refine KE.out.mono ?_
      rintro e v2 ⟨rfl, q, rfl⟩
      have E2 := Lib.hid (below_drewN E1.out q)
      go_wp2_with fail
      refine (AL.out _).mono ?_
      rintro e v3 ⟨rfl, hb⟩
      have E3 := Lib.hid (E2.out.trans (hb.mono E2.out.size))
      clear hb
      go_wp2_with fail
      first | exact ⟨rfl, E3.out⟩ | (go_ret; exact ⟨rfl, E3.out⟩)
    case pos =>
      obtain ⟨b, o, rfl, hbl, hcell⟩ := rdZ_row HQ.out (by omega) (by omega)
      have hA : At w b (o + i * 7) #[.int .i64 (z' i 0), .int .i64 (z' i 1), .int .i64 (z' i 2), .int .i64 (z' i 3), .int .i64 (z' i 4), .int .i64 (z' i 5), .int .i64 (z' i 6)] := at7 (hcell i 0 h (by omega)) (hcell i 1 h (by omega)) (hcell i 2 h (by omega)) (hcell i 3 h (by omega)) (hcell i 4 h (by omega)) (hcell i 5 h (by omega)) (hcell i 6 h (by omega))
      have HA0 := Lib.hid hA
      clear hA hcell
      have es := chL_succ z n z' i; have ln := chL_len z n z' i
      obtain ⟨L, hL⟩ : ∃ L, chL z n z' i = L := ⟨_, rfl⟩
      rw [hL] at es ln RW
      obtain ⟨len, hlen⟩ : ∃ q, L.length = q := ⟨_, rfl⟩
      have HLEN := Lib.hid hlen
      rw [hlen] at ln RW
      clear hL hlen
      have nt : neT z (lastT z (z' i 0) n - 1) z' i ↔ ¬ (z (lastT z (z' i 0) n - 1) 0 = z' i 0 ∧ z (lastT z (z' i 0) n - 1) 1 = z' i 1 ∧ z (lastT z (z' i 0) n - 1) 2 = z' i 2 ∧ z (lastT z (z' i 0) n - 1) 3 = z' i 3 ∧ z (lastT z (z' i 0) n - 1) 4 = z' i 4 ∧ z (lastT z (z' i 0) n - 1) 5 = z' i 5 ∧ z (lastT z (z' i 0) n - 1) 6 = z' i 6) := Iff.rfl
      have esY := fun q => es.trans (if_pos q); have esN := fun q => es.trans (if_neg q)
      clear es
      obtain ⟨y0, hy0⟩ : ∃ q, z' i 0 = q := ⟨_, rfl⟩
      obtain ⟨y1, hy1⟩ : ∃ q, z' i 1 = q := ⟨_, rfl⟩
      obtain ⟨y2, hy2⟩ : ∃ q, z' i 2 = q := ⟨_, rfl⟩
      obtain ⟨y3, hy3⟩ : ∃ q, z' i 3 = q := ⟨_, rfl⟩
      obtain ⟨y4, hy4⟩ : ∃ q, z' i 4 = q := ⟨_, rfl⟩
      obtain ⟨y5, hy5⟩ : ∃ q, z' i 5 = q := ⟨_, rfl⟩
      obtain ⟨y6, hy6⟩ : ∃ q, z' i 6 = q := ⟨_, rfl⟩
      rw [hy0, hy1, hy2, hy3, hy4, hy5, hy6] at HA0 nt
      rw [hy0] at esY esN
      clear hy0 hy1 hy2 hy3 hy4 hy5 hy6
      have NT := Lib.hid nt; have EY := Lib.hid esY; have EN := Lib.hid esN
      clear nt esY esN
      go_wp2_with fail
      go_loopw [7, 8] (fun l q wt => ∃ k : Nat, k ≤ n ∧ q = .int .i64 k ∧ l = .int .i64 ((lastT z y0 k : Int) - 1) ∧ wt.ownsRow w.heap.size 3 1 u5 len (L.map (Value.int .i64)) ∧ Below w.heap.size w wt) (fun _ q _ => n - (intOf q).toNat)
      case atStart => exact ⟨0, by omega, rfl, rfl, RW.out, EE.out⟩
      case round =>
        obtain ⟨k, hk, rfl, rfl, hrow, hB⟩ := hrel
        have RW := Lib.hid hrow; have EE := Lib.hid hB
        clear hrow hB
        by_cases h2 : k < n
        · have hA := HA0.out.next EE.out
          have HA := Lib.hid hA; clear hA
          obtain ⟨b2, o2, rfl, hbl2, hcell⟩ := rdZ_row HR.out (by omega) (by omega)
          have hC := (at7 (hcell k 0 h2 (by omega)) (hcell k 1 h2 (by omega)) (hcell k 2 h2 (by omega)) (hcell k 3 h2 (by omega)) (hcell k 4 h2 (by omega)) (hcell k 5 h2 (by omega)) (hcell k 6 h2 (by omega))).next EE.out
          have HC := Lib.hid hC; clear hC hcell
          have ls := lastT_succ z y0 k; have ll := lastT_le z y0 k
          obtain ⟨x0, hx0⟩ : ∃ q, z k 0 = q := ⟨_, rfl⟩
          obtain ⟨x1, hx1⟩ : ∃ q, z k 1 = q := ⟨_, rfl⟩
          obtain ⟨x2, hx2⟩ : ∃ q, z k 2 = q := ⟨_, rfl⟩
          obtain ⟨x3, hx3⟩ : ∃ q, z k 3 = q := ⟨_, rfl⟩
          obtain ⟨x4, hx4⟩ : ∃ q, z k 4 = q := ⟨_, rfl⟩
          obtain ⟨x5, hx5⟩ : ∃ q, z k 5 = q := ⟨_, rfl⟩
          obtain ⟨x6, hx6⟩ : ∃ q, z k 6 = q := ⟨_, rfl⟩
          rw [hx0, hx1, hx2, hx3, hx4, hx5, hx6] at HC
          rw [hx0] at ls
          clear hx0 hx1 hx2 hx3 hx4 hx5 hx6
          by_cases e0 : x0 = y0
          · rw [if_pos e0] at ls
            subst e0
            have LS := Lib.hid ls; clear ls
            have kA0 : wr.cell? ⟨b, o + i * 7, none⟩ = some (.int .i64 x0) := HA.out 0 _ rfl
            have kA1 : wr.cell? ⟨b, o + i * 7 + 1, none⟩ = some (.int .i64 y1) := HA.out 1 _ rfl
            have kA2 : wr.cell? ⟨b, o + i * 7 + 2, none⟩ = some (.int .i64 y2) := HA.out 2 _ rfl
            have kA3 : wr.cell? ⟨b, o + i * 7 + 3, none⟩ = some (.int .i64 y3) := HA.out 3 _ rfl
            have kA4 : wr.cell? ⟨b, o + i * 7 + 4, none⟩ = some (.int .i64 y4) := HA.out 4 _ rfl
            have kA5 : wr.cell? ⟨b, o + i * 7 + 5, none⟩ = some (.int .i64 y5) := HA.out 5 _ rfl
            have kA6 : wr.cell? ⟨b, o + i * 7 + 6, none⟩ = some (.int .i64 y6) := HA.out 6 _ rfl
            have kC0 : wr.cell? ⟨b2, o2 + k * 7, none⟩ = some (.int .i64 x0) := HC.out 0 _ rfl
            have kC1 : wr.cell? ⟨b2, o2 + k * 7 + 1, none⟩ = some (.int .i64 x1) := HC.out 1 _ rfl
            have kC2 : wr.cell? ⟨b2, o2 + k * 7 + 2, none⟩ = some (.int .i64 x2) := HC.out 2 _ rfl
            have kC3 : wr.cell? ⟨b2, o2 + k * 7 + 3, none⟩ = some (.int .i64 x3) := HC.out 3 _ rfl
            have kC4 : wr.cell? ⟨b2, o2 + k * 7 + 4, none⟩ = some (.int .i64 x4) := HC.out 4 _ rfl
            have kC5 : wr.cell? ⟨b2, o2 + k * 7 + 5, none⟩ = some (.int .i64 x5) := HC.out 5 _ rfl
            have kC6 : wr.cell? ⟨b2, o2 + k * 7 + 6, none⟩ = some (.int .i64 x6) := HC.out 6 _ rfl
            go_wp2_with fail
            have sK : ∀ X, At X b (o + i * 7) #[.int .i64 x0, .int .i64 y1, .int .i64 y2, .int .i64 y3, .int .i64 y4, .int .i64 y5, .int .i64 y6] → At X b2 (o2 + k * 7) #[.int .i64 x0, .int .i64 x1, .int .i64 x2, .int .i64 x3, .int .i64 x4, .int .i64 x5, .int .i64 x6] → (fun X => X.cell? ⟨b, o + i * 7, none⟩ = some (.int .i64 x0) ∧ X.cell? ⟨b, o + i * 7 + 1, none⟩ = some (.int .i64 y1) ∧ X.cell? ⟨b, o + i * 7 + 2, none⟩ = some (.int .i64 y2) ∧ X.cell? ⟨b, o + i * 7 + 3, none⟩ = some (.int .i64 y3) ∧ X.cell? ⟨b, o + i * 7 + 4, none⟩ = some (.int .i64 y4) ∧ X.cell? ⟨b, o + i * 7 + 5, none⟩ = some (.int .i64 y5) ∧ X.cell? ⟨b, o + i * 7 + 6, none⟩ = some (.int .i64 y6) ∧ X.cell? ⟨b2, o2 + k * 7, none⟩ = some (.int .i64 x0) ∧ X.cell? ⟨b2, o2 + k * 7 + 1, none⟩ = some (.int .i64 x1) ∧ X.cell? ⟨b2, o2 + k * 7 + 2, none⟩ = some (.int .i64 x2) ∧ X.cell? ⟨b2, o2 + k * 7 + 3, none⟩ = some (.int .i64 x3) ∧ X.cell? ⟨b2, o2 + k * 7 + 4, none⟩ = some (.int .i64 x4) ∧ X.cell? ⟨b2, o2 + k * 7 + 5, none⟩ = some (.int .i64 x5) ∧ X.cell? ⟨b2, o2 + k * 7 + 6, none⟩ = some (.int .i64 x6)) X := fun X hA hC => ⟨hA 0 _ rfl, hA 1 _ rfl, hA 2 _ rfl, hA 3 _ rfl, hA 4 _ rfl, hA 5 _ rfl, hA 6 _ rfl, hC 0 _ rfl, hC 1 _ rfl, hC 2 _ rfl, hC 3 _ rfl, hC 4 _ rfl, hC 5 _ rfl, hC 6 _ rfl⟩
            have LA0 := Lib.hid (HA.out.drew)
            have LC0 := Lib.hid (HC.out.drew)
            have E0 := Lib.hid (EE.out.drew)
            clear kA0 kA1 kA2 kA3 kA4 kA5 kA6 kC0 kC1 kC2 kC3 kC4 kC5 kC6
            refine wp_region_held_drew (S := (fun X => X.cell? ⟨b, o + i * 7, none⟩ = some (.int .i64 x0) ∧ X.cell? ⟨b, o + i * 7 + 1, none⟩ = some (.int .i64 y1) ∧ X.cell? ⟨b, o + i * 7 + 2, none⟩ = some (.int .i64 y2) ∧ X.cell? ⟨b, o + i * 7 + 3, none⟩ = some (.int .i64 y3) ∧ X.cell? ⟨b, o + i * 7 + 4, none⟩ = some (.int .i64 y4) ∧ X.cell? ⟨b, o + i * 7 + 5, none⟩ = some (.int .i64 y5) ∧ X.cell? ⟨b, o + i * 7 + 6, none⟩ = some (.int .i64 y6) ∧ X.cell? ⟨b2, o2 + k * 7, none⟩ = some (.int .i64 x0) ∧ X.cell? ⟨b2, o2 + k * 7 + 1, none⟩ = some (.int .i64 x1) ∧ X.cell? ⟨b2, o2 + k * 7 + 2, none⟩ = some (.int .i64 x2) ∧ X.cell? ⟨b2, o2 + k * 7 + 3, none⟩ = some (.int .i64 x3) ∧ X.cell? ⟨b2, o2 + k * 7 + 4, none⟩ = some (.int .i64 x4) ∧ X.cell? ⟨b2, o2 + k * 7 + 5, none⟩ = some (.int .i64 x5) ∧ X.cell? ⟨b2, o2 + k * 7 + 6, none⟩ = some (.int .i64 x6))) (by kernel_rfl) (sK _ LA0.out LC0.out) (fun hHeld => ?_)
            clear hHeld
            refine wpAnyH_take (i := 0) (v := ?_) rfl (by kernel_rfl) (by kernel_rfl) (by kernel_rfl) (fun _ _ _ h => h) (Or.inl ⟨by rfl, ?_⟩) (sK _ LA0.out LC0.out) ?_
            rotate_left
            · (intro wS hSw; (try dsimp only at hSw); go_simp; try with_reducible rfl)
            simp only [Act.put, List.getElem_toArray, List.getElem_cons_zero, List.getElem_cons_succ, List.setIfInBounds_toArray, List.set_cons_zero, List.set_cons_succ]
            refine wpAnyH_take (i := 1) (v := ?_) rfl (by kernel_rfl) (by kernel_rfl) (by kernel_rfl) (fun _ _ _ h => h) (Or.inl ⟨by rfl, ?_⟩) (sK _ LA0.out LC0.out) ?_
            rotate_left
            · (intro wS hSw; (try dsimp only at hSw); go_simp; try with_reducible rfl)
            simp only [Act.put, List.getElem_toArray, List.getElem_cons_zero, List.getElem_cons_succ, List.setIfInBounds_toArray, List.set_cons_zero, List.set_cons_succ]
            refine wpAnyH_take (i := 2) (v := ?_) rfl (by kernel_rfl) (by kernel_rfl) (by kernel_rfl) (fun _ _ _ h => h) (Or.inl ⟨by rfl, ?_⟩) (sK _ LA0.out LC0.out) ?_
            rotate_left
            · (intro wS hSw; (try dsimp only at hSw); go_simp; try with_reducible rfl)
            simp only [Act.put, List.getElem_toArray, List.getElem_cons_zero, List.getElem_cons_succ, List.setIfInBounds_toArray, List.set_cons_zero, List.set_cons_succ]
            refine wpAnyH_take (i := 3) (v := ?_) rfl (by kernel_rfl) (by kernel_rfl) (by kernel_rfl) (fun _ _ _ h => h) (Or.inl ⟨by rfl, ?_⟩) (sK _ LA0.out LC0.out) ?_
            rotate_left
            · (intro wS hSw; (try dsimp only at hSw); go_simp; try with_reducible rfl)
            simp only [Act.put, List.getElem_toArray, List.getElem_cons_zero, List.getElem_cons_succ, List.setIfInBounds_toArray, List.set_cons_zero, List.set_cons_succ]
            refine wpAnyH_take (i := 4) (v := ?_) rfl (by kernel_rfl) (by kernel_rfl) (by kernel_rfl) (fun _ _ _ h => h) (Or.inl ⟨by rfl, ?_⟩) (sK _ LA0.out LC0.out) ?_
            rotate_left
            · (intro wS hSw; (try dsimp only at hSw); go_simp; try with_reducible rfl)
            simp only [Act.put, List.getElem_toArray, List.getElem_cons_zero, List.getElem_cons_succ, List.setIfInBounds_toArray, List.set_cons_zero, List.set_cons_succ]
            refine wpAnyH_take (i := 5) (v := ?_) rfl (by kernel_rfl) (by kernel_rfl) (by kernel_rfl) (fun _ _ _ h => h) (Or.inl ⟨by rfl, ?_⟩) (sK _ LA0.out LC0.out) ?_
            rotate_left
            · (intro wS hSw; (try dsimp only at hSw); go_simp; try with_reducible rfl)
            simp only [Act.put, List.getElem_toArray, List.getElem_cons_zero, List.getElem_cons_succ, List.setIfInBounds_toArray, List.set_cons_zero, List.set_cons_succ]
            refine wpAnyH_take (i := 6) (v := ?_) rfl (by kernel_rfl) (by kernel_rfl) (by kernel_rfl) (fun _ _ _ h => h) (Or.inl ⟨by rfl, ?_⟩) (sK _ LA0.out LC0.out) ?_
            rotate_left
            · (intro wS hSw; (try dsimp only at hSw); go_simp; try with_reducible rfl)
            simp only [Act.put, List.getElem_toArray, List.getElem_cons_zero, List.getElem_cons_succ, List.setIfInBounds_toArray, List.set_cons_zero, List.set_cons_succ]
            refine wpAnyH_take (i := 7) (v := ?_) rfl (by kernel_rfl) (by kernel_rfl) (by kernel_rfl) (fun _ _ _ h => h) (Or.inl ⟨by rfl, ?_⟩) (sK _ LA0.out LC0.out) ?_
            rotate_left
            · (intro wS hSw; (try dsimp only at hSw); go_simp; try with_reducible rfl)
            simp only [Act.put, List.getElem_toArray, List.getElem_cons_zero, List.getElem_cons_succ, List.setIfInBounds_toArray, List.set_cons_zero, List.set_cons_succ]
            refine wpAnyH_take (i := 8) (v := ?_) rfl (by kernel_rfl) (by kernel_rfl) (by kernel_rfl) (fun _ _ _ h => h) (Or.inl ⟨by rfl, ?_⟩) (sK _ LA0.out LC0.out) ?_
            rotate_left
            · (intro wS hSw; (try dsimp only at hSw); go_simp; try with_reducible rfl)
            simp only [Act.put, List.getElem_toArray, List.getElem_cons_zero, List.getElem_cons_succ, List.setIfInBounds_toArray, List.set_cons_zero, List.set_cons_succ]
            refine wpAnyH_take (i := 9) (v := ?_) rfl (by kernel_rfl) (by kernel_rfl) (by kernel_rfl) (fun _ _ _ h => h) (Or.inl ⟨by rfl, ?_⟩) (sK _ LA0.out LC0.out) ?_
            rotate_left
            · (intro wS hSw; (try dsimp only at hSw); go_simp; try with_reducible rfl)
            simp only [Act.put, List.getElem_toArray, List.getElem_cons_zero, List.getElem_cons_succ, List.setIfInBounds_toArray, List.set_cons_zero, List.set_cons_succ]
            refine wpAnyH_take (i := 10) (v := ?_) rfl (by kernel_rfl) (by kernel_rfl) (by kernel_rfl) (fun _ _ _ h => h) (Or.inl ⟨by rfl, ?_⟩) (sK _ LA0.out LC0.out) ?_
            rotate_left
            · (intro wS hSw; (try dsimp only at hSw); go_simp; try with_reducible rfl)
            simp only [Act.put, List.getElem_toArray, List.getElem_cons_zero, List.getElem_cons_succ, List.setIfInBounds_toArray, List.set_cons_zero, List.set_cons_succ]
            refine wpAnyH_done (by kernel_rfl) ?_ _
            go_wp2_with fail
            go_roundw
            case rel => exact ⟨k + 1, by omega, by go_num, by rw [LS.out]; congr 1; omega, RW.out, E0.out⟩
            case measure => (simp [intOf]) <;> omega
          · rw [if_neg e0] at ls
            have nb : (x0 == y0) = false := by simpa using e0
            have LS := Lib.hid ls; clear ls e0
            have kA0 : wr.cell? ⟨b, o + i * 7, none⟩ = some (.int .i64 y0) := HA.out 0 _ rfl
            have kA1 : wr.cell? ⟨b, o + i * 7 + 1, none⟩ = some (.int .i64 y1) := HA.out 1 _ rfl
            have kA2 : wr.cell? ⟨b, o + i * 7 + 2, none⟩ = some (.int .i64 y2) := HA.out 2 _ rfl
            have kA3 : wr.cell? ⟨b, o + i * 7 + 3, none⟩ = some (.int .i64 y3) := HA.out 3 _ rfl
            have kA4 : wr.cell? ⟨b, o + i * 7 + 4, none⟩ = some (.int .i64 y4) := HA.out 4 _ rfl
            have kA5 : wr.cell? ⟨b, o + i * 7 + 5, none⟩ = some (.int .i64 y5) := HA.out 5 _ rfl
            have kA6 : wr.cell? ⟨b, o + i * 7 + 6, none⟩ = some (.int .i64 y6) := HA.out 6 _ rfl
            have kC0 : wr.cell? ⟨b2, o2 + k * 7, none⟩ = some (.int .i64 x0) := HC.out 0 _ rfl
            have kC1 : wr.cell? ⟨b2, o2 + k * 7 + 1, none⟩ = some (.int .i64 x1) := HC.out 1 _ rfl
            have kC2 : wr.cell? ⟨b2, o2 + k * 7 + 2, none⟩ = some (.int .i64 x2) := HC.out 2 _ rfl
            have kC3 : wr.cell? ⟨b2, o2 + k * 7 + 3, none⟩ = some (.int .i64 x3) := HC.out 3 _ rfl
            have kC4 : wr.cell? ⟨b2, o2 + k * 7 + 4, none⟩ = some (.int .i64 x4) := HC.out 4 _ rfl
            have kC5 : wr.cell? ⟨b2, o2 + k * 7 + 5, none⟩ = some (.int .i64 x5) := HC.out 5 _ rfl
            have kC6 : wr.cell? ⟨b2, o2 + k * 7 + 6, none⟩ = some (.int .i64 x6) := HC.out 6 _ rfl
            go_wp2_with fail
            have sK : ∀ X, At X b (o + i * 7) #[.int .i64 y0, .int .i64 y1, .int .i64 y2, .int .i64 y3, .int .i64 y4, .int .i64 y5, .int .i64 y6] → At X b2 (o2 + k * 7) #[.int .i64 x0, .int .i64 x1, .int .i64 x2, .int .i64 x3, .int .i64 x4, .int .i64 x5, .int .i64 x6] → (fun X => X.cell? ⟨b, o + i * 7, none⟩ = some (.int .i64 y0) ∧ X.cell? ⟨b, o + i * 7 + 1, none⟩ = some (.int .i64 y1) ∧ X.cell? ⟨b, o + i * 7 + 2, none⟩ = some (.int .i64 y2) ∧ X.cell? ⟨b, o + i * 7 + 3, none⟩ = some (.int .i64 y3) ∧ X.cell? ⟨b, o + i * 7 + 4, none⟩ = some (.int .i64 y4) ∧ X.cell? ⟨b, o + i * 7 + 5, none⟩ = some (.int .i64 y5) ∧ X.cell? ⟨b, o + i * 7 + 6, none⟩ = some (.int .i64 y6) ∧ X.cell? ⟨b2, o2 + k * 7, none⟩ = some (.int .i64 x0) ∧ X.cell? ⟨b2, o2 + k * 7 + 1, none⟩ = some (.int .i64 x1) ∧ X.cell? ⟨b2, o2 + k * 7 + 2, none⟩ = some (.int .i64 x2) ∧ X.cell? ⟨b2, o2 + k * 7 + 3, none⟩ = some (.int .i64 x3) ∧ X.cell? ⟨b2, o2 + k * 7 + 4, none⟩ = some (.int .i64 x4) ∧ X.cell? ⟨b2, o2 + k * 7 + 5, none⟩ = some (.int .i64 x5) ∧ X.cell? ⟨b2, o2 + k * 7 + 6, none⟩ = some (.int .i64 x6)) X := fun X hA hC => ⟨hA 0 _ rfl, hA 1 _ rfl, hA 2 _ rfl, hA 3 _ rfl, hA 4 _ rfl, hA 5 _ rfl, hA 6 _ rfl, hC 0 _ rfl, hC 1 _ rfl, hC 2 _ rfl, hC 3 _ rfl, hC 4 _ rfl, hC 5 _ rfl, hC 6 _ rfl⟩
            have LA0 := Lib.hid (HA.out.drew)
            have LC0 := Lib.hid (HC.out.drew)
            have E0 := Lib.hid (EE.out.drew)
            clear kA0 kA1 kA2 kA3 kA4 kA5 kA6 kC0 kC1 kC2 kC3 kC4 kC5 kC6
            refine wp_region_held_drew (S := (fun X => X.cell? ⟨b, o + i * 7, none⟩ = some (.int .i64 y0) ∧ X.cell? ⟨b, o + i * 7 + 1, none⟩ = some (.int .i64 y1) ∧ X.cell? ⟨b, o + i * 7 + 2, none⟩ = some (.int .i64 y2) ∧ X.cell? ⟨b, o + i * 7 + 3, none⟩ = some (.int .i64 y3) ∧ X.cell? ⟨b, o + i * 7 + 4, none⟩ = some (.int .i64 y4) ∧ X.cell? ⟨b, o + i * 7 + 5, none⟩ = some (.int .i64 y5) ∧ X.cell? ⟨b, o + i * 7 + 6, none⟩ = some (.int .i64 y6) ∧ X.cell? ⟨b2, o2 + k * 7, none⟩ = some (.int .i64 x0) ∧ X.cell? ⟨b2, o2 + k * 7 + 1, none⟩ = some (.int .i64 x1) ∧ X.cell? ⟨b2, o2 + k * 7 + 2, none⟩ = some (.int .i64 x2) ∧ X.cell? ⟨b2, o2 + k * 7 + 3, none⟩ = some (.int .i64 x3) ∧ X.cell? ⟨b2, o2 + k * 7 + 4, none⟩ = some (.int .i64 x4) ∧ X.cell? ⟨b2, o2 + k * 7 + 5, none⟩ = some (.int .i64 x5) ∧ X.cell? ⟨b2, o2 + k * 7 + 6, none⟩ = some (.int .i64 x6))) (by kernel_rfl) (sK _ LA0.out LC0.out) (fun hHeld => ?_)
            clear hHeld
            refine wpAnyH_take (i := 0) (v := ?_) rfl (by kernel_rfl) (by kernel_rfl) (by kernel_rfl) (fun _ _ _ h => h) (Or.inl ⟨by rfl, ?_⟩) (sK _ LA0.out LC0.out) ?_
            rotate_left
            · (intro wS hSw; (try dsimp only at hSw); go_simp; try with_reducible rfl)
            simp only [Act.put, List.getElem_toArray, List.getElem_cons_zero, List.getElem_cons_succ, List.setIfInBounds_toArray, List.set_cons_zero, List.set_cons_succ]
            refine wpAnyH_take (i := 1) (v := ?_) rfl (by kernel_rfl) (by kernel_rfl) (by kernel_rfl) (fun _ _ _ h => h) (Or.inl ⟨by rfl, ?_⟩) (sK _ LA0.out LC0.out) ?_
            rotate_left
            · (intro wS hSw; (try dsimp only at hSw); go_simp; try with_reducible rfl)
            simp only [Act.put, List.getElem_toArray, List.getElem_cons_zero, List.getElem_cons_succ, List.setIfInBounds_toArray, List.set_cons_zero, List.set_cons_succ]
            refine wpAnyH_take (i := 2) (v := ?_) rfl (by kernel_rfl) (by kernel_rfl) (by kernel_rfl) (fun _ _ _ h => h) (Or.inl ⟨by rfl, ?_⟩) (sK _ LA0.out LC0.out) ?_
            rotate_left
            · (intro wS hSw; (try dsimp only at hSw); go_simp; try with_reducible rfl)
            simp only [Act.put, List.getElem_toArray, List.getElem_cons_zero, List.getElem_cons_succ, List.setIfInBounds_toArray, List.set_cons_zero, List.set_cons_succ]
            refine wpAnyH_take (i := 3) (v := ?_) rfl (by kernel_rfl) (by kernel_rfl) (by kernel_rfl) (fun _ _ _ h => h) (Or.inl ⟨by rfl, ?_⟩) (sK _ LA0.out LC0.out) ?_
            rotate_left
            · (intro wS hSw; (try dsimp only at hSw); go_simp; try with_reducible rfl)
            simp only [Act.put, List.getElem_toArray, List.getElem_cons_zero, List.getElem_cons_succ, List.setIfInBounds_toArray, List.set_cons_zero, List.set_cons_succ]
            refine wpAnyH_take (i := 4) (v := ?_) rfl (by kernel_rfl) (by kernel_rfl) (by kernel_rfl) (fun _ _ _ h => h) (Or.inl ⟨by rfl, ?_⟩) (sK _ LA0.out LC0.out) ?_
            rotate_left
            · (intro wS hSw; (try dsimp only at hSw); go_simp; try with_reducible rfl)
            simp only [Act.put, List.getElem_toArray, List.getElem_cons_zero, List.getElem_cons_succ, List.setIfInBounds_toArray, List.set_cons_zero, List.set_cons_succ]
            refine wpAnyH_take (i := 5) (v := ?_) rfl (by kernel_rfl) (by kernel_rfl) (by kernel_rfl) (fun _ _ _ h => h) (Or.inl ⟨by rfl, ?_⟩) (sK _ LA0.out LC0.out) ?_
            rotate_left
            · (intro wS hSw; (try dsimp only at hSw); go_simp; try with_reducible rfl)
            simp only [Act.put, List.getElem_toArray, List.getElem_cons_zero, List.getElem_cons_succ, List.setIfInBounds_toArray, List.set_cons_zero, List.set_cons_succ]
            refine wpAnyH_take (i := 6) (v := ?_) rfl (by kernel_rfl) (by kernel_rfl) (by kernel_rfl) (fun _ _ _ h => h) (Or.inl ⟨by rfl, ?_⟩) (sK _ LA0.out LC0.out) ?_
            rotate_left
            · (intro wS hSw; (try dsimp only at hSw); go_simp; try with_reducible rfl)
            simp only [Act.put, List.getElem_toArray, List.getElem_cons_zero, List.getElem_cons_succ, List.setIfInBounds_toArray, List.set_cons_zero, List.set_cons_succ]
            refine wpAnyH_take (i := 7) (v := ?_) rfl (by kernel_rfl) (by kernel_rfl) (by kernel_rfl) (fun _ _ _ h => h) (Or.inl ⟨by rfl, ?_⟩) (sK _ LA0.out LC0.out) ?_
            rotate_left
            · (intro wS hSw; (try dsimp only at hSw); go_simp; try with_reducible rfl)
            simp only [Act.put, List.getElem_toArray, List.getElem_cons_zero, List.getElem_cons_succ, List.setIfInBounds_toArray, List.set_cons_zero, List.set_cons_succ]
            refine wpAnyH_take (i := 8) (v := ?_) rfl (by kernel_rfl) (by kernel_rfl) (by kernel_rfl) (fun _ _ _ h => h) (Or.inl ⟨by rfl, ?_⟩) (sK _ LA0.out LC0.out) ?_
            rotate_left
            · (intro wS hSw; (try dsimp only at hSw); go_simp; try with_reducible rfl)
            simp only [Act.put, List.getElem_toArray, List.getElem_cons_zero, List.getElem_cons_succ, List.setIfInBounds_toArray, List.set_cons_zero, List.set_cons_succ]
            refine wpAnyH_take (i := 9) (v := ?_) rfl (by kernel_rfl) (by kernel_rfl) (by kernel_rfl) (fun _ _ _ h => h) (Or.inl ⟨by rfl, ?_⟩) (sK _ LA0.out LC0.out) ?_
            rotate_left
            · (intro wS hSw; (try dsimp only at hSw); go_simp; try with_reducible rfl)
            simp only [Act.put, List.getElem_toArray, List.getElem_cons_zero, List.getElem_cons_succ, List.setIfInBounds_toArray, List.set_cons_zero, List.set_cons_succ]
            refine wpAnyH_take (i := 10) (v := ?_) rfl (by kernel_rfl) (by kernel_rfl) (by kernel_rfl) (fun _ _ _ h => h) (Or.inl ⟨by rfl, ?_⟩) (sK _ LA0.out LC0.out) ?_
            rotate_left
            · (intro wS hSw; (try dsimp only at hSw); go_simp; try with_reducible rfl)
            simp only [Act.put, List.getElem_toArray, List.getElem_cons_zero, List.getElem_cons_succ, List.setIfInBounds_toArray, List.set_cons_zero, List.set_cons_succ]
            refine wpAnyH_done (by kernel_rfl) ?_ _
            go_wp2_with fail
            go_roundw
            case rel => exact ⟨k + 1, by omega, by go_num, by rw [LS.out], RW.out, E0.out⟩
            case measure => (simp [intOf]) <;> omega
        · obtain rfl : n = k := by omega
          have ll := lastT_le z y0 n
          obtain ⟨r, hr⟩ : ∃ r, lastT z y0 n = r := ⟨_, rfl⟩
          rw [hr] at ll EY EN NT ⊢
          clear hr
          by_cases h0 : r = 0
          · subst h0
            have ES := Lib.hid (EN.out (fun q => by have := q.1; omega))
            have e1 : (((0 : Nat) : Int) - 1) = -1 := by omega
            rw [e1]
            go_wp2_with fail
            have sK : ∀ X, (fun _ : World => True) X := fun _ => True.intro
            have E0 := Lib.hid (EE.out.drew)
            refine wp_region_held_drew (S := (fun _ : World => True)) (by kernel_rfl) True.intro (fun hHeld => ?_)
            clear hHeld
            refine wpAnyH_take (i := 0) (v := ?_) rfl (by kernel_rfl) (by kernel_rfl) (by kernel_rfl) (fun _ _ _ h => h) (Or.inl ⟨by rfl, ?_⟩) True.intro ?_
            rotate_left
            · (intro wS hSw; (try dsimp only at hSw); go_simp; try with_reducible rfl)
            simp only [Act.put, List.getElem_toArray, List.getElem_cons_zero, List.getElem_cons_succ, List.setIfInBounds_toArray, List.set_cons_zero, List.set_cons_succ]
            refine wpAnyH_take (i := 1) (v := ?_) rfl (by kernel_rfl) (by kernel_rfl) (by kernel_rfl) (fun _ _ _ h => h) (Or.inl ⟨by rfl, ?_⟩) True.intro ?_
            rotate_left
            · (intro wS hSw; (try dsimp only at hSw); go_simp; try with_reducible rfl)
            simp only [Act.put, List.getElem_toArray, List.getElem_cons_zero, List.getElem_cons_succ, List.setIfInBounds_toArray, List.set_cons_zero, List.set_cons_succ]
            refine wpAnyH_take (i := 2) (v := ?_) rfl (by kernel_rfl) (by kernel_rfl) (by kernel_rfl) (fun _ _ _ h => h) (Or.inl ⟨by rfl, ?_⟩) True.intro ?_
            rotate_left
            · (intro wS hSw; (try dsimp only at hSw); go_simp; try with_reducible rfl)
            simp only [Act.put, List.getElem_toArray, List.getElem_cons_zero, List.getElem_cons_succ, List.setIfInBounds_toArray, List.set_cons_zero, List.set_cons_succ]
            refine wpAnyH_take (i := 3) (v := undef) rfl (by kernel_rfl) (by kernel_rfl) (by kernel_rfl) (fun _ _ _ h => h) (Or.inr ⟨by kernel_rfl, rfl⟩) True.intro ?_
            simp only [Act.put, List.getElem_toArray, List.getElem_cons_zero, List.getElem_cons_succ, List.setIfInBounds_toArray, List.set_cons_zero, List.set_cons_succ]
            refine wpAnyH_take (i := 4) (v := undef) rfl (by kernel_rfl) (by kernel_rfl) (by kernel_rfl) (fun _ _ _ h => h) (Or.inr ⟨by kernel_rfl, rfl⟩) True.intro ?_
            simp only [Act.put, List.getElem_toArray, List.getElem_cons_zero, List.getElem_cons_succ, List.setIfInBounds_toArray, List.set_cons_zero, List.set_cons_succ]
            refine wpAnyH_take (i := 5) (v := undef) rfl (by kernel_rfl) (by kernel_rfl) (by kernel_rfl) (fun _ _ _ h => h) (Or.inr ⟨by kernel_rfl, rfl⟩) True.intro ?_
            simp only [Act.put, List.getElem_toArray, List.getElem_cons_zero, List.getElem_cons_succ, List.setIfInBounds_toArray, List.set_cons_zero, List.set_cons_succ]
            refine wpAnyH_take (i := 6) (v := undef) rfl (by kernel_rfl) (by kernel_rfl) (by kernel_rfl) (fun _ _ _ h => h) (Or.inr ⟨by kernel_rfl, rfl⟩) True.intro ?_
            simp only [Act.put, List.getElem_toArray, List.getElem_cons_zero, List.getElem_cons_succ, List.setIfInBounds_toArray, List.set_cons_zero, List.set_cons_succ]
            refine wpAnyH_take (i := 7) (v := undef) rfl (by kernel_rfl) (by kernel_rfl) (by kernel_rfl) (fun _ _ _ h => h) (Or.inr ⟨by kernel_rfl, rfl⟩) True.intro ?_
            simp only [Act.put, List.getElem_toArray, List.getElem_cons_zero, List.getElem_cons_succ, List.setIfInBounds_toArray, List.set_cons_zero, List.set_cons_succ]
            refine wpAnyH_take (i := 8) (v := undef) rfl (by kernel_rfl) (by kernel_rfl) (by kernel_rfl) (fun _ _ _ h => h) (Or.inr ⟨by kernel_rfl, rfl⟩) True.intro ?_
            simp only [Act.put, List.getElem_toArray, List.getElem_cons_zero, List.getElem_cons_succ, List.setIfInBounds_toArray, List.set_cons_zero, List.set_cons_succ]
            refine wpAnyH_take (i := 9) (v := undef) rfl (by kernel_rfl) (by kernel_rfl) (by kernel_rfl) (fun _ _ _ h => h) (Or.inr ⟨by kernel_rfl, rfl⟩) True.intro ?_
            simp only [Act.put, List.getElem_toArray, List.getElem_cons_zero, List.getElem_cons_succ, List.setIfInBounds_toArray, List.set_cons_zero, List.set_cons_succ]
            refine wpAnyH_take (i := 10) (v := undef) rfl (by kernel_rfl) (by kernel_rfl) (by kernel_rfl) (fun _ _ _ h => h) (Or.inr ⟨by kernel_rfl, rfl⟩) True.intro ?_
            simp only [Act.put, List.getElem_toArray, List.getElem_cons_zero, List.getElem_cons_succ, List.setIfInBounds_toArray, List.set_cons_zero, List.set_cons_succ]
            refine wpAnyH_take (i := 11) (v := undef) rfl (by kernel_rfl) (by kernel_rfl) (by kernel_rfl) (fun _ _ _ h => h) (Or.inr ⟨by kernel_rfl, rfl⟩) True.intro ?_
            simp only [Act.put, List.getElem_toArray, List.getElem_cons_zero, List.getElem_cons_succ, List.setIfInBounds_toArray, List.set_cons_zero, List.set_cons_succ]
            refine wpAnyH_take (i := 12) (v := ?_) rfl (by kernel_rfl) (by kernel_rfl) (by kernel_rfl) (fun _ _ _ h => h) (Or.inl ⟨by rfl, ?_⟩) True.intro ?_
            rotate_left
            · (intro wS hSw; (try dsimp only at hSw); go_simp; try with_reducible rfl)
            simp only [Act.put, List.getElem_toArray, List.getElem_cons_zero, List.getElem_cons_succ, List.setIfInBounds_toArray, List.set_cons_zero, List.set_cons_succ]
            refine wpAnyH_done (by kernel_rfl) ?_ _
            go_wp2_with fail
            go_roundw
            case rel => exact ⟨i + 1, by omega, by go_num, by rw [ES.out, HLEN.out]; exact RW.out, E0.out⟩
            case measure => (simp [intOf]) <;> omega
          · obtain ⟨q, rfl⟩ : ∃ q, r = q + 1 := ⟨r - 1, by omega⟩
            have e1 : (((q + 1 : Nat) : Int) - 1) = (q : Int) := by omega
            rw [e1]
            simp only [Nat.add_sub_cancel] at NT EY EN
            have hA := HA0.out.next EE.out
            have HA := Lib.hid hA; clear hA
            obtain ⟨b2, o2, rfl, hbl2, hcell⟩ := rdZ_row HR.out (by omega) (by omega)
            have hC := (at7 (hcell q 0 (by omega) (by omega)) (hcell q 1 (by omega) (by omega)) (hcell q 2 (by omega) (by omega)) (hcell q 3 (by omega) (by omega)) (hcell q 4 (by omega) (by omega)) (hcell q 5 (by omega) (by omega)) (hcell q 6 (by omega) (by omega))).next EE.out
            have HC := Lib.hid hC; clear hC hcell
            obtain ⟨x0, hx0⟩ : ∃ q', z q 0 = q' := ⟨_, rfl⟩
            obtain ⟨x1, hx1⟩ : ∃ q', z q 1 = q' := ⟨_, rfl⟩
            obtain ⟨x2, hx2⟩ : ∃ q', z q 2 = q' := ⟨_, rfl⟩
            obtain ⟨x3, hx3⟩ : ∃ q', z q 3 = q' := ⟨_, rfl⟩
            obtain ⟨x4, hx4⟩ : ∃ q', z q 4 = q' := ⟨_, rfl⟩
            obtain ⟨x5, hx5⟩ : ∃ q', z q 5 = q' := ⟨_, rfl⟩
            obtain ⟨x6, hx6⟩ : ∃ q', z q 6 = q' := ⟨_, rfl⟩
            rw [hx0, hx1, hx2, hx3, hx4, hx5, hx6] at HC NT
            clear hx0 hx1 hx2 hx3 hx4 hx5 hx6
            have hqn : q < n := by omega
            have dq : decide ((0 : Int) ≤ (q : Int)) = true := decide_eq_true (by omega)
            by_cases hs : x0 = y0 ∧ x1 = y1 ∧ x2 = y2 ∧ x3 = y3 ∧ x4 = y4 ∧ x5 = y5 ∧ x6 = y6
            · have ES := Lib.hid (EN.out (fun q' => NT.out.1 q'.2 hs))
              clear NT EY EN
              obtain ⟨rfl, rfl, rfl, rfl, rfl, rfl, rfl⟩ := hs
              have TS := trip_same x0 x1 x2 x3 x4 x5 x6
              have kA0 : wr.cell? ⟨b, o + i * 7, none⟩ = some (.int .i64 x0) := HA.out 0 _ rfl
              have kA1 : wr.cell? ⟨b, o + i * 7 + 1, none⟩ = some (.int .i64 x1) := HA.out 1 _ rfl
              have kA2 : wr.cell? ⟨b, o + i * 7 + 2, none⟩ = some (.int .i64 x2) := HA.out 2 _ rfl
              have kA3 : wr.cell? ⟨b, o + i * 7 + 3, none⟩ = some (.int .i64 x3) := HA.out 3 _ rfl
              have kA4 : wr.cell? ⟨b, o + i * 7 + 4, none⟩ = some (.int .i64 x4) := HA.out 4 _ rfl
              have kA5 : wr.cell? ⟨b, o + i * 7 + 5, none⟩ = some (.int .i64 x5) := HA.out 5 _ rfl
              have kA6 : wr.cell? ⟨b, o + i * 7 + 6, none⟩ = some (.int .i64 x6) := HA.out 6 _ rfl
              have kC0 : wr.cell? ⟨b2, o2 + q * 7, none⟩ = some (.int .i64 x0) := HC.out 0 _ rfl
              have kC1 : wr.cell? ⟨b2, o2 + q * 7 + 1, none⟩ = some (.int .i64 x1) := HC.out 1 _ rfl
              have kC2 : wr.cell? ⟨b2, o2 + q * 7 + 2, none⟩ = some (.int .i64 x2) := HC.out 2 _ rfl
              have kC3 : wr.cell? ⟨b2, o2 + q * 7 + 3, none⟩ = some (.int .i64 x3) := HC.out 3 _ rfl
              have kC4 : wr.cell? ⟨b2, o2 + q * 7 + 4, none⟩ = some (.int .i64 x4) := HC.out 4 _ rfl
              have kC5 : wr.cell? ⟨b2, o2 + q * 7 + 5, none⟩ = some (.int .i64 x5) := HC.out 5 _ rfl
              have kC6 : wr.cell? ⟨b2, o2 + q * 7 + 6, none⟩ = some (.int .i64 x6) := HC.out 6 _ rfl
              go_wp2_with fail
              have sK : ∀ X, At X b (o + i * 7) #[.int .i64 x0, .int .i64 x1, .int .i64 x2, .int .i64 x3, .int .i64 x4, .int .i64 x5, .int .i64 x6] → At X b2 (o2 + q * 7) #[.int .i64 x0, .int .i64 x1, .int .i64 x2, .int .i64 x3, .int .i64 x4, .int .i64 x5, .int .i64 x6] → (fun X => X.cell? ⟨b, o + i * 7, none⟩ = some (.int .i64 x0) ∧ X.cell? ⟨b, o + i * 7 + 1, none⟩ = some (.int .i64 x1) ∧ X.cell? ⟨b, o + i * 7 + 2, none⟩ = some (.int .i64 x2) ∧ X.cell? ⟨b, o + i * 7 + 3, none⟩ = some (.int .i64 x3) ∧ X.cell? ⟨b, o + i * 7 + 4, none⟩ = some (.int .i64 x4) ∧ X.cell? ⟨b, o + i * 7 + 5, none⟩ = some (.int .i64 x5) ∧ X.cell? ⟨b, o + i * 7 + 6, none⟩ = some (.int .i64 x6) ∧ X.cell? ⟨b2, o2 + q * 7, none⟩ = some (.int .i64 x0) ∧ X.cell? ⟨b2, o2 + q * 7 + 1, none⟩ = some (.int .i64 x1) ∧ X.cell? ⟨b2, o2 + q * 7 + 2, none⟩ = some (.int .i64 x2) ∧ X.cell? ⟨b2, o2 + q * 7 + 3, none⟩ = some (.int .i64 x3) ∧ X.cell? ⟨b2, o2 + q * 7 + 4, none⟩ = some (.int .i64 x4) ∧ X.cell? ⟨b2, o2 + q * 7 + 5, none⟩ = some (.int .i64 x5) ∧ X.cell? ⟨b2, o2 + q * 7 + 6, none⟩ = some (.int .i64 x6)) X := fun X hA hC => ⟨hA 0 _ rfl, hA 1 _ rfl, hA 2 _ rfl, hA 3 _ rfl, hA 4 _ rfl, hA 5 _ rfl, hA 6 _ rfl, hC 0 _ rfl, hC 1 _ rfl, hC 2 _ rfl, hC 3 _ rfl, hC 4 _ rfl, hC 5 _ rfl, hC 6 _ rfl⟩
              have LA0 := Lib.hid (HA.out.drew)
              have LC0 := Lib.hid (HC.out.drew)
              have E0 := Lib.hid (EE.out.drew)
              clear kA0 kA1 kA2 kA3 kA4 kA5 kA6 kC0 kC1 kC2 kC3 kC4 kC5 kC6
              refine wp_region_held_drew (S := (fun X => X.cell? ⟨b, o + i * 7, none⟩ = some (.int .i64 x0) ∧ X.cell? ⟨b, o + i * 7 + 1, none⟩ = some (.int .i64 x1) ∧ X.cell? ⟨b, o + i * 7 + 2, none⟩ = some (.int .i64 x2) ∧ X.cell? ⟨b, o + i * 7 + 3, none⟩ = some (.int .i64 x3) ∧ X.cell? ⟨b, o + i * 7 + 4, none⟩ = some (.int .i64 x4) ∧ X.cell? ⟨b, o + i * 7 + 5, none⟩ = some (.int .i64 x5) ∧ X.cell? ⟨b, o + i * 7 + 6, none⟩ = some (.int .i64 x6) ∧ X.cell? ⟨b2, o2 + q * 7, none⟩ = some (.int .i64 x0) ∧ X.cell? ⟨b2, o2 + q * 7 + 1, none⟩ = some (.int .i64 x1) ∧ X.cell? ⟨b2, o2 + q * 7 + 2, none⟩ = some (.int .i64 x2) ∧ X.cell? ⟨b2, o2 + q * 7 + 3, none⟩ = some (.int .i64 x3) ∧ X.cell? ⟨b2, o2 + q * 7 + 4, none⟩ = some (.int .i64 x4) ∧ X.cell? ⟨b2, o2 + q * 7 + 5, none⟩ = some (.int .i64 x5) ∧ X.cell? ⟨b2, o2 + q * 7 + 6, none⟩ = some (.int .i64 x6))) (by kernel_rfl) (sK _ LA0.out LC0.out) (fun hHeld => ?_)
              clear hHeld
              refine wpAnyH_take (i := 0) (v := ?_) rfl (by kernel_rfl) (by kernel_rfl) (by kernel_rfl) (fun _ _ _ h => h) (Or.inl ⟨by rfl, ?_⟩) (sK _ LA0.out LC0.out) ?_
              rotate_left
              · (intro wS hSw; (try dsimp only at hSw); go_simp; try with_reducible rfl)
              simp only [Act.put, List.getElem_toArray, List.getElem_cons_zero, List.getElem_cons_succ, List.setIfInBounds_toArray, List.set_cons_zero, List.set_cons_succ]
              refine wpAnyH_take (i := 1) (v := ?_) rfl (by kernel_rfl) (by kernel_rfl) (by kernel_rfl) (fun _ _ _ h => h) (Or.inl ⟨by rfl, ?_⟩) (sK _ LA0.out LC0.out) ?_
              rotate_left
              · (intro wS hSw; (try dsimp only at hSw); go_simp; try with_reducible rfl)
              simp only [Act.put, List.getElem_toArray, List.getElem_cons_zero, List.getElem_cons_succ, List.setIfInBounds_toArray, List.set_cons_zero, List.set_cons_succ]
              refine wpAnyH_take (i := 2) (v := ?_) rfl (by kernel_rfl) (by kernel_rfl) (by kernel_rfl) (fun _ _ _ h => h) (Or.inl ⟨by rfl, ?_⟩) (sK _ LA0.out LC0.out) ?_
              rotate_left
              · (intro wS hSw; (try dsimp only at hSw); go_simp; try with_reducible rfl)
              simp only [Act.put, List.getElem_toArray, List.getElem_cons_zero, List.getElem_cons_succ, List.setIfInBounds_toArray, List.set_cons_zero, List.set_cons_succ]
              refine wpAnyH_take (i := 3) (v := ?_) rfl (by kernel_rfl) (by kernel_rfl) (by kernel_rfl) (fun _ _ _ h => h) (Or.inl ⟨by rfl, ?_⟩) (sK _ LA0.out LC0.out) ?_
              rotate_left
              · (intro wS hSw; (try dsimp only at hSw); go_simp; try with_reducible rfl)
              simp only [Act.put, List.getElem_toArray, List.getElem_cons_zero, List.getElem_cons_succ, List.setIfInBounds_toArray, List.set_cons_zero, List.set_cons_succ]
              refine wpAnyH_take (i := 4) (v := ?_) rfl (by kernel_rfl) (by kernel_rfl) (by kernel_rfl) (fun _ _ _ h => h) (Or.inl ⟨by rfl, ?_⟩) (sK _ LA0.out LC0.out) ?_
              rotate_left
              · (intro wS hSw; (try dsimp only at hSw); go_simp; try with_reducible rfl)
              simp only [Act.put, List.getElem_toArray, List.getElem_cons_zero, List.getElem_cons_succ, List.setIfInBounds_toArray, List.set_cons_zero, List.set_cons_succ]
              refine wpAnyH_take (i := 5) (v := ?_) rfl (by kernel_rfl) (by kernel_rfl) (by kernel_rfl) (fun _ _ _ h => h) (Or.inl ⟨by rfl, ?_⟩) (sK _ LA0.out LC0.out) ?_
              rotate_left
              · (intro wS hSw; (try dsimp only at hSw); go_simp; try with_reducible rfl)
              simp only [Act.put, List.getElem_toArray, List.getElem_cons_zero, List.getElem_cons_succ, List.setIfInBounds_toArray, List.set_cons_zero, List.set_cons_succ]
              refine wpAnyH_take (i := 6) (v := ?_) rfl (by kernel_rfl) (by kernel_rfl) (by kernel_rfl) (fun _ _ _ h => h) (Or.inl ⟨by rfl, ?_⟩) (sK _ LA0.out LC0.out) ?_
              rotate_left
              · (intro wS hSw; (try dsimp only at hSw); go_simp; try with_reducible rfl)
              simp only [Act.put, List.getElem_toArray, List.getElem_cons_zero, List.getElem_cons_succ, List.setIfInBounds_toArray, List.set_cons_zero, List.set_cons_succ]
              refine wpAnyH_take (i := 7) (v := ?_) rfl (by kernel_rfl) (by kernel_rfl) (by kernel_rfl) (fun _ _ _ h => h) (Or.inl ⟨by rfl, ?_⟩) (sK _ LA0.out LC0.out) ?_
              rotate_left
              · (intro wS hSw; (try dsimp only at hSw); go_simp; try with_reducible rfl)
              simp only [Act.put, List.getElem_toArray, List.getElem_cons_zero, List.getElem_cons_succ, List.setIfInBounds_toArray, List.set_cons_zero, List.set_cons_succ]
              refine wpAnyH_take (i := 8) (v := ?_) rfl (by kernel_rfl) (by kernel_rfl) (by kernel_rfl) (fun _ _ _ h => h) (Or.inl ⟨by rfl, ?_⟩) (sK _ LA0.out LC0.out) ?_
              rotate_left
              · (intro wS hSw; (try dsimp only at hSw); go_simp; try with_reducible rfl)
              simp only [Act.put, List.getElem_toArray, List.getElem_cons_zero, List.getElem_cons_succ, List.setIfInBounds_toArray, List.set_cons_zero, List.set_cons_succ]
              refine wpAnyH_take (i := 9) (v := ?_) rfl (by kernel_rfl) (by kernel_rfl) (by kernel_rfl) (fun _ _ _ h => h) (Or.inl ⟨by rfl, ?_⟩) (sK _ LA0.out LC0.out) ?_
              rotate_left
              · (intro wS hSw; (try dsimp only at hSw); go_simp; try with_reducible rfl)
              simp only [Act.put, List.getElem_toArray, List.getElem_cons_zero, List.getElem_cons_succ, List.setIfInBounds_toArray, List.set_cons_zero, List.set_cons_succ]
              refine wpAnyH_take (i := 10) (v := ?_) rfl (by kernel_rfl) (by kernel_rfl) (by kernel_rfl) (fun _ _ _ h => h) (Or.inl ⟨by rfl, ?_⟩) (sK _ LA0.out LC0.out) ?_
              rotate_left
              · (intro wS hSw; (try dsimp only at hSw); go_simp; try with_reducible rfl)
              simp only [Act.put, List.getElem_toArray, List.getElem_cons_zero, List.getElem_cons_succ, List.setIfInBounds_toArray, List.set_cons_zero, List.set_cons_succ]
              refine wpAnyH_take (i := 11) (v := ?_) rfl (by kernel_rfl) (by kernel_rfl) (by kernel_rfl) (fun _ _ _ h => h) (Or.inl ⟨by rfl, ?_⟩) (sK _ LA0.out LC0.out) ?_
              rotate_left
              · (intro wS hSw; (try dsimp only at hSw); go_simp; try with_reducible rfl)
              simp only [Act.put, List.getElem_toArray, List.getElem_cons_zero, List.getElem_cons_succ, List.setIfInBounds_toArray, List.set_cons_zero, List.set_cons_succ]
              refine wpAnyH_take (i := 12) (v := ?_) rfl (by kernel_rfl) (by kernel_rfl) (by kernel_rfl) (fun _ _ _ h => h) (Or.inl ⟨by rfl, ?_⟩) (sK _ LA0.out LC0.out) ?_
              rotate_left
              · (intro wS hSw; (try dsimp only at hSw); go_simp; try with_reducible rfl)
              simp only [Act.put, List.getElem_toArray, List.getElem_cons_zero, List.getElem_cons_succ, List.setIfInBounds_toArray, List.set_cons_zero, List.set_cons_succ]
              refine wpAnyH_done (by kernel_rfl) ?_ _
              go_wp2_with fail
              go_roundw
              case rel => exact ⟨i + 1, by omega, by go_num, by rw [ES.out, HLEN.out]; exact RW.out, E0.out⟩
              case measure => (simp [intOf]) <;> omega
            · have ES := Lib.hid (EY.out ⟨by omega, NT.out.2 hs⟩)
              have TN := fun W => trip_ne x0 x1 x2 x3 x4 x5 x6 y0 y1 y2 y3 y4 y5 y6 W hs
              have HS := Lib.hid hs; clear hs NT EY EN
              have kA0 : wr.cell? ⟨b, o + i * 7, none⟩ = some (.int .i64 y0) := HA.out 0 _ rfl
              have kA1 : wr.cell? ⟨b, o + i * 7 + 1, none⟩ = some (.int .i64 y1) := HA.out 1 _ rfl
              have kA2 : wr.cell? ⟨b, o + i * 7 + 2, none⟩ = some (.int .i64 y2) := HA.out 2 _ rfl
              have kA3 : wr.cell? ⟨b, o + i * 7 + 3, none⟩ = some (.int .i64 y3) := HA.out 3 _ rfl
              have kA4 : wr.cell? ⟨b, o + i * 7 + 4, none⟩ = some (.int .i64 y4) := HA.out 4 _ rfl
              have kA5 : wr.cell? ⟨b, o + i * 7 + 5, none⟩ = some (.int .i64 y5) := HA.out 5 _ rfl
              have kA6 : wr.cell? ⟨b, o + i * 7 + 6, none⟩ = some (.int .i64 y6) := HA.out 6 _ rfl
              have kC0 : wr.cell? ⟨b2, o2 + q * 7, none⟩ = some (.int .i64 x0) := HC.out 0 _ rfl
              have kC1 : wr.cell? ⟨b2, o2 + q * 7 + 1, none⟩ = some (.int .i64 x1) := HC.out 1 _ rfl
              have kC2 : wr.cell? ⟨b2, o2 + q * 7 + 2, none⟩ = some (.int .i64 x2) := HC.out 2 _ rfl
              have kC3 : wr.cell? ⟨b2, o2 + q * 7 + 3, none⟩ = some (.int .i64 x3) := HC.out 3 _ rfl
              have kC4 : wr.cell? ⟨b2, o2 + q * 7 + 4, none⟩ = some (.int .i64 x4) := HC.out 4 _ rfl
              have kC5 : wr.cell? ⟨b2, o2 + q * 7 + 5, none⟩ = some (.int .i64 x5) := HC.out 5 _ rfl
              have kC6 : wr.cell? ⟨b2, o2 + q * 7 + 6, none⟩ = some (.int .i64 x6) := HC.out 6 _ rfl
              go_wp2_with fail
              have sK : ∀ X, At X b (o + i * 7) #[.int .i64 y0, .int .i64 y1, .int .i64 y2, .int .i64 y3, .int .i64 y4, .int .i64 y5, .int .i64 y6] → At X b2 (o2 + q * 7) #[.int .i64 x0, .int .i64 x1, .int .i64 x2, .int .i64 x3, .int .i64 x4, .int .i64 x5, .int .i64 x6] → (fun X => X.cell? ⟨b, o + i * 7, none⟩ = some (.int .i64 y0) ∧ X.cell? ⟨b, o + i * 7 + 1, none⟩ = some (.int .i64 y1) ∧ X.cell? ⟨b, o + i * 7 + 2, none⟩ = some (.int .i64 y2) ∧ X.cell? ⟨b, o + i * 7 + 3, none⟩ = some (.int .i64 y3) ∧ X.cell? ⟨b, o + i * 7 + 4, none⟩ = some (.int .i64 y4) ∧ X.cell? ⟨b, o + i * 7 + 5, none⟩ = some (.int .i64 y5) ∧ X.cell? ⟨b, o + i * 7 + 6, none⟩ = some (.int .i64 y6) ∧ X.cell? ⟨b2, o2 + q * 7, none⟩ = some (.int .i64 x0) ∧ X.cell? ⟨b2, o2 + q * 7 + 1, none⟩ = some (.int .i64 x1) ∧ X.cell? ⟨b2, o2 + q * 7 + 2, none⟩ = some (.int .i64 x2) ∧ X.cell? ⟨b2, o2 + q * 7 + 3, none⟩ = some (.int .i64 x3) ∧ X.cell? ⟨b2, o2 + q * 7 + 4, none⟩ = some (.int .i64 x4) ∧ X.cell? ⟨b2, o2 + q * 7 + 5, none⟩ = some (.int .i64 x5) ∧ X.cell? ⟨b2, o2 + q * 7 + 6, none⟩ = some (.int .i64 x6)) X := fun X hA hC => ⟨hA 0 _ rfl, hA 1 _ rfl, hA 2 _ rfl, hA 3 _ rfl, hA 4 _ rfl, hA 5 _ rfl, hA 6 _ rfl, hC 0 _ rfl, hC 1 _ rfl, hC 2 _ rfl, hC 3 _ rfl, hC 4 _ rfl, hC 5 _ rfl, hC 6 _ rfl⟩
              have LA0 := Lib.hid (HA.out.drew)
              have LC0 := Lib.hid (HC.out.drew)
              have E0 := Lib.hid (EE.out.drew)
              clear kA0 kA1 kA2 kA3 kA4 kA5 kA6 kC0 kC1 kC2 kC3 kC4 kC5 kC6
              refine wp_region_held_drew (S := (fun X => X.cell? ⟨b, o + i * 7, none⟩ = some (.int .i64 y0) ∧ X.cell? ⟨b, o + i * 7 + 1, none⟩ = some (.int .i64 y1) ∧ X.cell? ⟨b, o + i * 7 + 2, none⟩ = some (.int .i64 y2) ∧ X.cell? ⟨b, o + i * 7 + 3, none⟩ = some (.int .i64 y3) ∧ X.cell? ⟨b, o + i * 7 + 4, none⟩ = some (.int .i64 y4) ∧ X.cell? ⟨b, o + i * 7 + 5, none⟩ = some (.int .i64 y5) ∧ X.cell? ⟨b, o + i * 7 + 6, none⟩ = some (.int .i64 y6) ∧ X.cell? ⟨b2, o2 + q * 7, none⟩ = some (.int .i64 x0) ∧ X.cell? ⟨b2, o2 + q * 7 + 1, none⟩ = some (.int .i64 x1) ∧ X.cell? ⟨b2, o2 + q * 7 + 2, none⟩ = some (.int .i64 x2) ∧ X.cell? ⟨b2, o2 + q * 7 + 3, none⟩ = some (.int .i64 x3) ∧ X.cell? ⟨b2, o2 + q * 7 + 4, none⟩ = some (.int .i64 x4) ∧ X.cell? ⟨b2, o2 + q * 7 + 5, none⟩ = some (.int .i64 x5) ∧ X.cell? ⟨b2, o2 + q * 7 + 6, none⟩ = some (.int .i64 x6))) (by kernel_rfl) (sK _ LA0.out LC0.out) (fun hHeld => ?_)
              clear hHeld
              refine wpAnyH_take (i := 0) (v := ?_) rfl (by kernel_rfl) (by kernel_rfl) (by kernel_rfl) (fun _ _ _ h => h) (Or.inl ⟨by rfl, ?_⟩) (sK _ LA0.out LC0.out) ?_
              rotate_left
              · (intro wS hSw; (try dsimp only at hSw); go_simp; try with_reducible rfl)
              simp only [Act.put, List.getElem_toArray, List.getElem_cons_zero, List.getElem_cons_succ, List.setIfInBounds_toArray, List.set_cons_zero, List.set_cons_succ]
              refine wpAnyH_take (i := 1) (v := ?_) rfl (by kernel_rfl) (by kernel_rfl) (by kernel_rfl) (fun _ _ _ h => h) (Or.inl ⟨by rfl, ?_⟩) (sK _ LA0.out LC0.out) ?_
              rotate_left
              · (intro wS hSw; (try dsimp only at hSw); go_simp; try with_reducible rfl)
              simp only [Act.put, List.getElem_toArray, List.getElem_cons_zero, List.getElem_cons_succ, List.setIfInBounds_toArray, List.set_cons_zero, List.set_cons_succ]
              refine wpAnyH_take (i := 2) (v := ?_) rfl (by kernel_rfl) (by kernel_rfl) (by kernel_rfl) (fun _ _ _ h => h) (Or.inl ⟨by rfl, ?_⟩) (sK _ LA0.out LC0.out) ?_
              rotate_left
              · (intro wS hSw; (try dsimp only at hSw); go_simp; try with_reducible rfl)
              simp only [Act.put, List.getElem_toArray, List.getElem_cons_zero, List.getElem_cons_succ, List.setIfInBounds_toArray, List.set_cons_zero, List.set_cons_succ]
              refine wpAnyH_take (i := 3) (v := ?_) rfl (by kernel_rfl) (by kernel_rfl) (by kernel_rfl) (fun _ _ _ h => h) (Or.inl ⟨by rfl, ?_⟩) (sK _ LA0.out LC0.out) ?_
              rotate_left
              · (intro wS hSw; (try dsimp only at hSw); go_simp; try with_reducible rfl)
              simp only [Act.put, List.getElem_toArray, List.getElem_cons_zero, List.getElem_cons_succ, List.setIfInBounds_toArray, List.set_cons_zero, List.set_cons_succ]
              refine wpAnyH_take (i := 4) (v := ?_) rfl (by kernel_rfl) (by kernel_rfl) (by kernel_rfl) (fun _ _ _ h => h) (Or.inl ⟨by rfl, ?_⟩) (sK _ LA0.out LC0.out) ?_
              rotate_left
              · (intro wS hSw; (try dsimp only at hSw); go_simp; try with_reducible rfl)
              simp only [Act.put, List.getElem_toArray, List.getElem_cons_zero, List.getElem_cons_succ, List.setIfInBounds_toArray, List.set_cons_zero, List.set_cons_succ]
              refine wpAnyH_take (i := 5) (v := ?_) rfl (by kernel_rfl) (by kernel_rfl) (by kernel_rfl) (fun _ _ _ h => h) (Or.inl ⟨by rfl, ?_⟩) (sK _ LA0.out LC0.out) ?_
              rotate_left
              · (intro wS hSw; (try dsimp only at hSw); go_simp; try with_reducible rfl)
              simp only [Act.put, List.getElem_toArray, List.getElem_cons_zero, List.getElem_cons_succ, List.setIfInBounds_toArray, List.set_cons_zero, List.set_cons_succ]
              refine wpAnyH_take (i := 6) (v := ?_) rfl (by kernel_rfl) (by kernel_rfl) (by kernel_rfl) (fun _ _ _ h => h) (Or.inl ⟨by rfl, ?_⟩) (sK _ LA0.out LC0.out) ?_
              rotate_left
              · (intro wS hSw; (try dsimp only at hSw); go_simp; try with_reducible rfl)
              simp only [Act.put, List.getElem_toArray, List.getElem_cons_zero, List.getElem_cons_succ, List.setIfInBounds_toArray, List.set_cons_zero, List.set_cons_succ]
              refine wpAnyH_take (i := 7) (v := ?_) rfl (by kernel_rfl) (by kernel_rfl) (by kernel_rfl) (fun _ _ _ h => h) (Or.inl ⟨by rfl, ?_⟩) (sK _ LA0.out LC0.out) ?_
              rotate_left
              · (intro wS hSw; (try dsimp only at hSw); go_simp; try with_reducible rfl)
              simp only [Act.put, List.getElem_toArray, List.getElem_cons_zero, List.getElem_cons_succ, List.setIfInBounds_toArray, List.set_cons_zero, List.set_cons_succ]
              refine wpAnyH_take (i := 8) (v := ?_) rfl (by kernel_rfl) (by kernel_rfl) (by kernel_rfl) (fun _ _ _ h => h) (Or.inl ⟨by rfl, ?_⟩) (sK _ LA0.out LC0.out) ?_
              rotate_left
              · (intro wS hSw; (try dsimp only at hSw); go_simp; try with_reducible rfl)
              simp only [Act.put, List.getElem_toArray, List.getElem_cons_zero, List.getElem_cons_succ, List.setIfInBounds_toArray, List.set_cons_zero, List.set_cons_succ]
              refine wpAnyH_take (i := 9) (v := ?_) rfl (by kernel_rfl) (by kernel_rfl) (by kernel_rfl) (fun _ _ _ h => h) (Or.inl ⟨by rfl, ?_⟩) (sK _ LA0.out LC0.out) ?_
              rotate_left
              · (intro wS hSw; (try dsimp only at hSw); go_simp; try with_reducible rfl)
              simp only [Act.put, List.getElem_toArray, List.getElem_cons_zero, List.getElem_cons_succ, List.setIfInBounds_toArray, List.set_cons_zero, List.set_cons_succ]
              refine wpAnyH_take (i := 10) (v := ?_) rfl (by kernel_rfl) (by kernel_rfl) (by kernel_rfl) (fun _ _ _ h => h) (Or.inl ⟨by rfl, ?_⟩) (sK _ LA0.out LC0.out) ?_
              rotate_left
              · (intro wS hSw; (try dsimp only at hSw); go_simp; try with_reducible rfl)
              simp only [Act.put, List.getElem_toArray, List.getElem_cons_zero, List.getElem_cons_succ, List.setIfInBounds_toArray, List.set_cons_zero, List.set_cons_succ]
              refine wpAnyH_take (i := 11) (v := ?_) rfl (by kernel_rfl) (by kernel_rfl) (by kernel_rfl) (fun _ _ _ h => h) (Or.inl ⟨by rfl, ?_⟩) (sK _ LA0.out LC0.out) ?_
              rotate_left
              · (intro wS hSw; (try dsimp only at hSw); go_simp; try with_reducible rfl)
              simp only [Act.put, List.getElem_toArray, List.getElem_cons_zero, List.getElem_cons_succ, List.setIfInBounds_toArray, List.set_cons_zero, List.set_cons_succ]
              refine wpAnyH_take (i := 12) (v := ?_) rfl (by kernel_rfl) (by kernel_rfl) (by kernel_rfl) (fun _ _ _ h => h) (Or.inl ⟨by rfl, ?_⟩) (sK _ LA0.out LC0.out) ?_
              rotate_left
              · (intro wS hSw; (try dsimp only at hSw); go_simp; try with_reducible rfl)
              simp only [Act.put, List.getElem_toArray, List.getElem_cons_zero, List.getElem_cons_succ, List.setIfInBounds_toArray, List.set_cons_zero, List.set_cons_succ]
              refine wpAnyH_done (by kernel_rfl) ?_ _
              have RL : wr.drew.ownsRow w.heap.size 3 1 u5 len (L.map (Value.int .i64)) := RW.out
              have EL : Below w.heap.size w wr.drew := E0.out
              have kq : wr.drew.cell? ⟨b, o + i * 7, none⟩ = some (.int .i64 y0) := LA0.out 0 _ rfl
              obtain ⟨vL, hvL⟩ : ∃ V, wr.drew = V := ⟨_, rfl⟩
              rw [hvL] at RL EL kq ⊢
              have RW := Lib.hid RL; have EE := Lib.hid EL
              clear hvL RL EL
              have hsz := EE.out.size
              go_wp2_with (at_builtin; refine wpList_append_own _ rfl _ _ 40 rfl w.heap.size 3 i0 (.int .i64 0) 1 8 Try.underlying40 hi hz0 hz1 hz2 rfl (by decide) _ _ _ rfl (RW.out.alloc _) ⟨_, 0, none⟩ 1 1 [.int .i64 y0] rfl rfl (one_newR) (by intro u hu; simp at hu; subst hu; rfl) (by unfold maxLen; omega) (by omega) (by simp; omega) ?_; intro v' w4 hown' hgrow _)
              have E4 := Lib.hid ((EE.out.alloc EE.out.size (.cells #[.int .i64 y0] 3)).grown hgrow (by have := EE.out.size; simp; omega) (fun q hq => by first | exact ownR_ge RW.out hq | exact ownR_ge RW.out hq.symm))
              have R4 : Hid (w4.ownsRow w.heap.size 3 1 v' (chL z n z' (i + 1)).length ((chL z n z' (i + 1)).map (Value.int .i64))) := Lib.hid (by
                rw [ES.out, List.length_append, HLEN.out, List.map_append]
                exact hown')
              clear hown' hgrow
              go_wp2_with fail
              go_roundw
              case rel => exact ⟨i + 1, by omega, by go_num, R4.out, E4.out⟩
              case measure => (simp [intOf]) <;> omega
theorem walk {A B : Option Addr} {c d n m : Nat} {z z' : Nat → Nat → Int} {w : World} (hl : n ≤ c) (hm : c ≤ maxLen) (hr : RdZ w 7 A n z) (_ : A = none → c = 0) (hl2 : m ≤ d) (hm2 : d ≤ maxLen) (hr2 : RdZ w 7 B m z') (_ : B = none → d = 0) :
    Calls Try.prog 5 #[.slice A n c, .slice B m d] w fun e w' => e = .returned (.bool true) ∧ Below w.heap.size w w' :=
  have hM : maxLen ≤ 9223372036854775807 := by decide
  walk_f A B c d n m z z' w hr hr2 (by omega) (by omega)

end Go.Proofs.Ytodfjghgcphhhab.diffChanged
