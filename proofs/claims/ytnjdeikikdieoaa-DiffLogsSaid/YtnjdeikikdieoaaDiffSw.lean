/- the document's Same at any two logs. -/
import Derived.Test.YtnjdeikikdieoaaRows
import Derived.Test.YtnjdeikikdieoaaRowKit
import Derived.Test.YtnjdeikikdieoaaRowS
import Derived.Test.YtnjdeikikdieoaaRowZ
import Derived.Test.YtnjdeikikdieoaaSlicesEq
import Derived.Test.YtnjdeikikdieoaaRowV
import Derived.Test.YtnjdeikikdieoaaRowW
import Derived.Test.YtnjdeikikdieoaaBlocks
import Derived.Test.YtnjdeikikdieoaaDiffEq
import Derived.Test.YtnjdeikikdieoaaDiffLeg
import Derived.Test.YtnjdeikikdieoaaDiffF
import Derived.Test.YtnjdeikikdieoaaDiffS
import Derived.Deep.RegionHeld3
import Derived.BigRegion
import Derived.Below
import Derived.WalkKit
import Derived.Lib.Hide
import Derived.WalkSpells
import Derived.WalkLawsBesides
import Derived.Deep.QuietTactic
import Derived.BigQuiet
namespace Go.Proofs.Ytnjdeikikdieoaa
open Go.RowKit
set_option linter.unusedSimpArgs false
set_option linter.unusedVariables false
set_option maxRecDepth 100000 in
set_option maxHeartbeats 8000000 in
theorem wsame_any (T T2 A A2 : Option Addr) (ct ct2 d d2 nt nt2 n n2 : Nat) (u u2 : Int) (z z2 : Nat → Nat → Int) (P P2 : Nat → Option Addr) (ln ln2 cp cp2 : Nat → Nat) (v v2 : Nat → Nat → Nat → Value) (w : World)
    (ha : RdZ w 7 T nt z) (ha2 : RdZ w 7 T2 nt2 z2) (hb : RdW w 4 shLeg A n P ln cp v) (hb2 : RdW w 4 shLeg A2 n2 P2 ln2 cp2 v2) (hl : n ≤ 9223372036854775807) (hl2 : n2 ≤ 9223372036854775807) (hl3 : nt ≤ 9223372036854775807) (hl4 : nt2 ≤ 9223372036854775807) :
    Calls Try.prog 12 #[.agg #[.slice T nt ct, .slice A n d, .int .i64 u], .agg #[.slice T2 nt2 ct2, .slice A2 n2 d2, .int .i64 u2]] w fun e w' => e = .returned (.bool (sameL u u2 nt nt2 z z2 n n2 ln ln2 v v2)) ∧ Below w.heap.size w w' := by
  have BE : Below w.heap.size w ((w.alloc (.cells #[.slice T nt ct, .slice A n d, .int .i64 u] 25)).alloc (.cells #[.slice T2 nt2 ct2, .slice A2 n2 d2, .int .i64 u2] 25)) := ((Below.refl w.heap.size w).alloc (Nat.le_refl _) _).alloc (by simp) _
  by_cases hu : u = u2
  case neg =>
    have e : sameL u u2 nt nt2 z z2 n n2 ln ln2 v v2 = false := by simp [sameL, hu]
    rw [e]
    have HE := Lib.hid BE
    have hne : (u == u2) = false := by simpa using hu
    have hne2 : (u != u2) = true := by simpa using hu
    clear ha ha2 hb hb2 e BE
    go_enter Try.func12, Try.ntmps12
    go_wp2_with fail
    go_ret
    exact ⟨rfl, HE.out⟩
  subst hu
  by_cases ht : nt = nt2
  case neg =>
    have e : sameL u u nt nt2 z z2 n n2 ln ln2 v v2 = false := by simp [sameL, sameZ, ht]
    rw [e]
    have HE := Lib.hid BE
    have hne : ((nt : Int) == (nt2 : Int)) = false := by simp; omega
    have hne2 : ((nt : Int) != (nt2 : Int)) = true := by simp; omega
    clear ha ha2 hb hb2 e BE
    go_enter Try.func12, Try.ntmps12
    go_wp2_with fail
    go_ret
    exact ⟨rfl, HE.out⟩
  subst ht
  by_cases hn : n = n2
  case neg =>
    have e : sameL u u nt nt z z2 n n2 ln ln2 v v2 = false := by simp [sameL, sameW, hn]
    rw [e]
    have HE := Lib.hid BE
    have hne : ((n : Int) == (n2 : Int)) = false := by simp; omega
    have hne2 : ((n : Int) != (n2 : Int)) = true := by simp; omega
    clear ha ha2 hb hb2 e BE
    go_enter Try.func12, Try.ntmps12
    go_wp2_with fail
    go_ret
    exact ⟨rfl, HE.out⟩
  subst hn
  obtain ⟨R, hR⟩ : ∃ R, sameL u u nt nt z z2 n n ln ln2 v v2 = R := ⟨_, rfl⟩
  rw [hR]
  have HR := Lib.hid hR
  have ka := RdZ.kept ha BE
  have ka2 := RdZ.kept ha2 BE
  have kb := fun k => RdW.kept hb (below_drewN BE k)
  have kb2 := fun k => RdW.kept hb2 (below_drewN BE k)
  have BL := Blk.alloc (Blk.new w #[.slice T nt ct, .slice A n d, .int .i64 u] 25) (.cells #[.slice T2 nt ct2, .slice A2 n d2, .int .i64 u] 25)
  have BM := Blk.new (w.alloc (.cells #[.slice T nt ct, .slice A n d, .int .i64 u] 25)) #[.slice T2 nt ct2, .slice A2 n d2, .int .i64 u] 25
  rw [World.size_alloc] at BM
  clear ha ha2 hb hb2 hR
  go_enter Try.func12, Try.ntmps12
  go_wp2_with fail
  obtain ⟨V0, hV0⟩ : ∃ V, ((w.alloc (.cells #[.slice T nt ct, .slice A n d, .int .i64 u] 25)).alloc (.cells #[.slice T2 nt ct2, .slice A2 n d2, .int .i64 u] 25)) = V := ⟨_, rfl⟩
  rw [hV0] at BL BM BE ka ka2 ⊢
  simp only [hV0] at kb kb2
  clear hV0
  have HE := Lib.hid BE
  have HA := Lib.hid ka
  have HA2 := Lib.hid ka2
  have HB := Lib.hid kb
  have HB2 := Lib.hid kb2
  have k0 : V0.cell? ⟨w.heap.size, 0, none⟩ = some (.slice T nt ct) := BL.cell 0
  have k1 : V0.cell? ⟨w.heap.size, 1, none⟩ = some (.slice A n d) := BL.cell 1
  have k2 : V0.cell? ⟨w.heap.size + 1, 0, none⟩ = some (.slice T2 nt ct2) := BM.cell 0
  have k3 : V0.cell? ⟨w.heap.size + 1, 1, none⟩ = some (.slice A2 n d2) := BM.cell 1
  clear BL BM BE ka ka2 kb kb2
  go_loopw [5] (fun i wr => ∃ k : Nat, k ≤ nt ∧ (Hid (∀ q < k, ∀ j < 7, z q j = z2 q j)) ∧ i = .int .i64 k ∧ ∃ q, wr = V0.drewN q) (fun i _ => nt - (intOf i).toNat)
  case atStart => exact ⟨0, by omega, Lib.hid (fun q h => absurd h (by omega)), rfl, 0, rfl⟩
  case round =>
    obtain ⟨k, hk, hall, rfl, q, rfl⟩ := hrel
    by_cases h : k < nt
    · obtain ⟨b1, o1, rfl, _, h1⟩ := rdZ_row HA.out (by omega) (by omega)
      obtain ⟨b2, o2, rfl, _, h2⟩ := rdZ_row HA2.out (by omega) (by omega)
      by_cases hw0 : True
      · skip
        have a0 : V0.cell? ⟨b1, o1 + k * 7, none⟩ = _ := h1 k 0 h (by omega)
        have a1 := h1 k 1 h (by omega)
        have a2 := h1 k 2 h (by omega)
        have a3 := h1 k 3 h (by omega)
        have a4 := h1 k 4 h (by omega)
        have a5 := h1 k 5 h (by omega)
        have a6 := h1 k 6 h (by omega)
        have e0 : V0.cell? ⟨b2, o2 + k * 7, none⟩ = _ := h2 k 0 h (by omega)
        have e1 := h2 k 1 h (by omega)
        have e2 := h2 k 2 h (by omega)
        have e3 := h2 k 3 h (by omega)
        have e4 := h2 k 4 h (by omega)
        have e5 := h2 k 5 h (by omega)
        have e6 := h2 k 6 h (by omega)
        clear h1 h2
        obtain ⟨x0, hx0⟩ : ∃ x, z k 0 = x := ⟨_, rfl⟩
        obtain ⟨y0, hy0⟩ : ∃ y, z2 k 0 = y := ⟨_, rfl⟩
        rw [hx0] at a0
        rw [hy0] at e0
        obtain ⟨x1, hx1⟩ : ∃ x, z k 1 = x := ⟨_, rfl⟩
        obtain ⟨y1, hy1⟩ : ∃ y, z2 k 1 = y := ⟨_, rfl⟩
        rw [hx1] at a1
        rw [hy1] at e1
        obtain ⟨x2, hx2⟩ : ∃ x, z k 2 = x := ⟨_, rfl⟩
        obtain ⟨y2, hy2⟩ : ∃ y, z2 k 2 = y := ⟨_, rfl⟩
        rw [hx2] at a2
        rw [hy2] at e2
        obtain ⟨x3, hx3⟩ : ∃ x, z k 3 = x := ⟨_, rfl⟩
        obtain ⟨y3, hy3⟩ : ∃ y, z2 k 3 = y := ⟨_, rfl⟩
        rw [hx3] at a3
        rw [hy3] at e3
        obtain ⟨x4, hx4⟩ : ∃ x, z k 4 = x := ⟨_, rfl⟩
        obtain ⟨y4, hy4⟩ : ∃ y, z2 k 4 = y := ⟨_, rfl⟩
        rw [hx4] at a4
        rw [hy4] at e4
        obtain ⟨x5, hx5⟩ : ∃ x, z k 5 = x := ⟨_, rfl⟩
        obtain ⟨y5, hy5⟩ : ∃ y, z2 k 5 = y := ⟨_, rfl⟩
        rw [hx5] at a5
        rw [hy5] at e5
        obtain ⟨x6, hx6⟩ : ∃ x, z k 6 = x := ⟨_, rfl⟩
        obtain ⟨y6, hy6⟩ : ∃ y, z2 k 6 = y := ⟨_, rfl⟩
        rw [hx6] at a6
        rw [hy6] at e6
        by_cases hs : x0 = y0 ∧ x1 = y1 ∧ x2 = y2 ∧ x3 = y3 ∧ x4 = y4 ∧ x5 = y5 ∧ x6 = y6
        · have hall2 : Hid (∀ q < k + 1, ∀ j < 7, z q j = z2 q j) := Lib.hid (fun q hq j hj => by
            by_cases hqk : q < k
            · exact hall.out q hqk j hj
            · obtain rfl : q = k := by omega
              rcases j with _ | _ | _ | _ | _ | _ | _ | j <;> first | omega | (simp only [hx0, hx1, hx2, hx3, hx4, hx5, hx6, hy0, hy1, hy2, hy3, hy4, hy5, hy6, hs]))
          clear hx0 hy0 hx1 hy1 hx2 hy2 hx3 hy3 hx4 hy4 hx5 hy5 hx6 hy6 hall hw0
          obtain ⟨rfl, rfl, rfl, rfl, rfl, rfl, rfl⟩ := hs
          go_wp2_with fail
          go_quiet (fail)
          go_wp2_with fail
          go_roundw
          case rel => exact ⟨k + 1, by omega, hall2, by go_num, _, rfl⟩
          case measure => simp [intOf]; omega
        · obtain rfl : R = false := by
            rw [← HR.out]
            have hz : sameZ 7 nt nt z z2 = false := sameZ_false (fun hc => hs ⟨by rw [← hx0, ← hy0]; exact hc.2 k h 0 (by omega), by rw [← hx1, ← hy1]; exact hc.2 k h 1 (by omega), by rw [← hx2, ← hy2]; exact hc.2 k h 2 (by omega), by rw [← hx3, ← hy3]; exact hc.2 k h 3 (by omega), by rw [← hx4, ← hy4]; exact hc.2 k h 4 (by omega), by rw [← hx5, ← hy5]; exact hc.2 k h 5 (by omega), by rw [← hx6, ← hy6]; exact hc.2 k h 6 (by omega)⟩)
            simp [sameL, hz]
          clear hx0 hy0 hx1 hy1 hx2 hy2 hx3 hy3 hx4 hy4 hx5 hy5 hx6 hy6 hall HR hw0
          have hw : ((x0 == y0) = false) ∨ (x0 = y0 ∧ (x1 == y1) = false) ∨ (x0 = y0 ∧ x1 = y1 ∧ (x2 == y2) = false) ∨ (x0 = y0 ∧ x1 = y1 ∧ x2 = y2 ∧ (x3 == y3) = false) ∨ (x0 = y0 ∧ x1 = y1 ∧ x2 = y2 ∧ x3 = y3 ∧ (x4 == y4) = false) ∨ (x0 = y0 ∧ x1 = y1 ∧ x2 = y2 ∧ x3 = y3 ∧ x4 = y4 ∧ (x5 == y5) = false) ∨ (x0 = y0 ∧ x1 = y1 ∧ x2 = y2 ∧ x3 = y3 ∧ x4 = y4 ∧ x5 = y5 ∧ (x6 == y6) = false) := by
            by_cases g0 : x0 = y0
            case neg => exact Or.inl (by simpa using g0)
            by_cases g1 : x1 = y1
            case neg => exact Or.inr (Or.inl ⟨g0, by simpa using g1⟩)
            by_cases g2 : x2 = y2
            case neg => exact Or.inr (Or.inr (Or.inl ⟨g0, g1, by simpa using g2⟩))
            by_cases g3 : x3 = y3
            case neg => exact Or.inr (Or.inr (Or.inr (Or.inl ⟨g0, g1, g2, by simpa using g3⟩)))
            by_cases g4 : x4 = y4
            case neg => exact Or.inr (Or.inr (Or.inr (Or.inr (Or.inl ⟨g0, g1, g2, g3, by simpa using g4⟩))))
            by_cases g5 : x5 = y5
            case neg => exact Or.inr (Or.inr (Or.inr (Or.inr (Or.inr (Or.inl ⟨g0, g1, g2, g3, g4, by simpa using g5⟩)))))
            by_cases g6 : x6 = y6
            case neg => exact Or.inr (Or.inr (Or.inr (Or.inr (Or.inr (Or.inr (⟨g0, g1, g2, g3, g4, g5, by simpa using g6⟩))))))
            exact absurd ⟨g0, g1, g2, g3, g4, g5, g6⟩ hs
          clear hs
          rcases hw with hb | ⟨rfl, hb⟩ | ⟨rfl, rfl, hb⟩ | ⟨rfl, rfl, rfl, hb⟩ | ⟨rfl, rfl, rfl, rfl, hb⟩ | ⟨rfl, rfl, rfl, rfl, rfl, hb⟩ | ⟨rfl, rfl, rfl, rfl, rfl, rfl, hb⟩
          · go_wp2_with fail
            go_quiet (fail)
            go_wp2_with fail
            go_ret
            exact ⟨rfl, below_drewN (below_drewN HE.out _) _⟩
          · go_wp2_with fail
            go_quiet (fail)
            go_wp2_with fail
            go_ret
            exact ⟨rfl, below_drewN (below_drewN HE.out _) _⟩
          · go_wp2_with fail
            go_quiet (fail)
            go_wp2_with fail
            go_ret
            exact ⟨rfl, below_drewN (below_drewN HE.out _) _⟩
          · go_wp2_with fail
            go_quiet (fail)
            go_wp2_with fail
            go_ret
            exact ⟨rfl, below_drewN (below_drewN HE.out _) _⟩
          · go_wp2_with fail
            go_quiet (fail)
            go_wp2_with fail
            go_ret
            exact ⟨rfl, below_drewN (below_drewN HE.out _) _⟩
          · go_wp2_with fail
            go_quiet (fail)
            go_wp2_with fail
            go_ret
            exact ⟨rfl, below_drewN (below_drewN HE.out _) _⟩
          · go_wp2_with fail
            go_quiet (fail)
            go_wp2_with fail
            go_ret
            exact ⟨rfl, below_drewN (below_drewN HE.out _) _⟩
      · exact absurd trivial hw0
    · have hz : Hid (sameZ 7 nt nt z z2 = true) := Lib.hid ((sameZ_true ..).2 ⟨rfl, fun q hq j hj => hall.out q (by omega) j hj⟩)
      clear hall
      go_wp2_with fail
      go_loopw [6] (fun i wr => ∃ k : Nat, k ≤ n ∧ (Hid (∀ q < k, sameV 4 (ln q) (ln2 q) (v q) (v2 q) = true)) ∧ i = .int .i64 k ∧ ∃ q, wr = V0.drewN q) (fun i _ => n - (intOf i).toNat)
      case atStart => exact ⟨0, by omega, Lib.hid (fun q h => absurd h (by omega)), rfl, _, rfl⟩
      case round =>
        obtain ⟨k, hk, hall, rfl, q, rfl⟩ := hrel
        by_cases h : k < n
        · obtain ⟨b1, o1, rfl, _, h1⟩ := rdW_row (HB.out 0) (by omega)
          obtain ⟨b2, o2, rfl, _, h2⟩ := rdW_row (HB2.out 0) (by omega)
          have c1 : V0.cell? ⟨b1, o1 + k, none⟩ = _ := h1 k h
          have c2 : V0.cell? ⟨b2, o2 + k, none⟩ = _ := h2 k h
          have KC : ∀ q, Calls Try.prog 28 #[.slice (P k) (ln k) (cp k), .slice (P2 k) (ln2 k) (cp2 k)] (V0.drewN q) fun e w' => e = .returned (.bool (sameV 4 (ln k) (ln2 k) (v k) (v2 k))) ∧ ∃ k, w' = (V0.drewN q).drewN k := fun q => by
            obtain ⟨l1, l2, l3⟩ := rdW_at (HB.out q) h
            obtain ⟨m1, m2, m3⟩ := rdW_at (HB2.out q) h
            have hM : maxLen ≤ 9223372036854775807 := by decide
            exact wlegs_eq _ _ _ _ _ _ _ _ _ l3 m3 (by omega) (by omega)
          have hc := Lib.hid KC
          clear h1 h2 KC
          obtain ⟨p1, hp1⟩ : ∃ x, P k = x := ⟨_, rfl⟩
          obtain ⟨p2, hp2⟩ : ∃ x, P2 k = x := ⟨_, rfl⟩
          obtain ⟨l1, hl1⟩ : ∃ x, ln k = x := ⟨_, rfl⟩
          obtain ⟨l2, hl2⟩ : ∃ x, ln2 k = x := ⟨_, rfl⟩
          obtain ⟨d1, hd1⟩ : ∃ x, cp k = x := ⟨_, rfl⟩
          obtain ⟨f2, hf2⟩ : ∃ x, cp2 k = x := ⟨_, rfl⟩
          obtain ⟨r, hr⟩ : ∃ x, sameV 4 l1 l2 (v k) (v2 k) = x := ⟨_, rfl⟩
          rw [hp1, hl1, hd1] at c1 hc
          rw [hp2, hl2, hf2] at c2 hc
          rw [hr] at hc
          have HF : Hid (r = false → R = false) := Lib.hid fun er => by
            rw [← HR.out]
            have hw : sameW n n ln ln2 v v2 = false := sameW_false (fun hx => by have := hx.2 k h; rw [hl1, hl2, hr, er] at this; cases this)
            simp [sameL, hw]
          have HT : Hid (r = true → ∀ q < k + 1, sameV 4 (ln q) (ln2 q) (v q) (v2 q) = true) := Lib.hid fun er q hq => by
            by_cases hqk : q < k
            · exact hall.out q hqk
            · obtain rfl : q = k := by omega
              rw [hl1, hl2, hr]; exact er
          clear hp1 hp2 hl1 hl2 hd1 hf2 hr hall
          go_wp2_with fail
          have sK : ∀ X : World, (∀ a, X.cell? a = V0.cell? a) → (fun X : World => X.cell? ⟨w.heap.size, 1, none⟩ = some (.slice (some ⟨b1, o1, none⟩) n d) ∧ X.cell? ⟨w.heap.size + 1, 1, none⟩ = some (.slice (some ⟨b2, o2, none⟩) n d2) ∧ X.cell? ⟨b1, o1 + k, none⟩ = some (.slice p1 l1 d1) ∧ X.cell? ⟨b2, o2 + k, none⟩ = some (.slice p2 l2 f2)) X := fun X h => ⟨(h _).trans k1, (h _).trans k3, (h _).trans c1, (h _).trans c2⟩
          clear k0 k1 k2 k3 c1 c2
          refine wp_region_held_drew (S := (fun X : World => X.cell? ⟨w.heap.size, 1, none⟩ = some (.slice (some ⟨b1, o1, none⟩) n d) ∧ X.cell? ⟨w.heap.size + 1, 1, none⟩ = some (.slice (some ⟨b2, o2, none⟩) n d2) ∧ X.cell? ⟨b1, o1 + k, none⟩ = some (.slice p1 l1 d1) ∧ X.cell? ⟨b2, o2 + k, none⟩ = some (.slice p2 l2 f2))) (by kernel_rfl) (sK _ (fun _ => rfl)) (fun hHeld => ?_)
          clear hHeld
          refine wpAnyH_take (i := 0) (v := ?_) rfl (by kernel_rfl) (by kernel_rfl) (by kernel_rfl) (fun _ _ _ h => h) (Or.inl ⟨by rfl, ?_⟩) (sK _ (fun _ => rfl)) ?_
          rotate_left
          · (intro wS hSw; (try dsimp only at hSw); go_simp; try with_reducible rfl)
          simp only [Act.put, List.getElem_toArray, List.getElem_cons_zero, List.getElem_cons_succ, List.setIfInBounds_toArray, List.set_cons_zero, List.set_cons_succ]
          refine wpAnyH_take (i := 1) (v := ?_) rfl (by kernel_rfl) (by kernel_rfl) (by kernel_rfl) (fun _ _ _ h => h) (Or.inl ⟨by rfl, ?_⟩) (sK _ (fun _ => rfl)) ?_
          rotate_left
          · (intro wS hSw; (try dsimp only at hSw); go_simp; try with_reducible rfl)
          simp only [Act.put, List.getElem_toArray, List.getElem_cons_zero, List.getElem_cons_succ, List.setIfInBounds_toArray, List.set_cons_zero, List.set_cons_succ]
          refine wpAnyH_take (i := 2) (v := ?_) rfl (by kernel_rfl) (by kernel_rfl) (by kernel_rfl) (fun _ _ _ h => h) (Or.inl ⟨by rfl, ?_⟩) (sK _ (fun _ => rfl)) ?_
          rotate_left
          · (intro wS hSw; (try dsimp only at hSw); go_simp; try with_reducible rfl)
          simp only [Act.put, List.getElem_toArray, List.getElem_cons_zero, List.getElem_cons_succ, List.setIfInBounds_toArray, List.set_cons_zero, List.set_cons_succ]
          refine wpAnyH_take (i := 3) (v := ?_) rfl (by kernel_rfl) (by kernel_rfl) (by kernel_rfl) (fun _ _ _ h => h) (Or.inl ⟨by rfl, ?_⟩) (sK _ (fun _ => rfl)) ?_
          rotate_left
          · (intro wS hSw; (try dsimp only at hSw); go_simp; try with_reducible rfl)
          simp only [Act.put, List.getElem_toArray, List.getElem_cons_zero, List.getElem_cons_succ, List.setIfInBounds_toArray, List.set_cons_zero, List.set_cons_succ]
          refine wpAnyH_take (i := 4) (v := ?_) rfl (by kernel_rfl) (by kernel_rfl) (by kernel_rfl) (fun _ _ _ h => h) (Or.inl ⟨by rfl, ?_⟩) (sK _ (fun _ => rfl)) ?_
          rotate_left
          · (intro wS hSw; (try dsimp only at hSw); go_simp; try with_reducible rfl)
          simp only [Act.put, List.getElem_toArray, List.getElem_cons_zero, List.getElem_cons_succ, List.setIfInBounds_toArray, List.set_cons_zero, List.set_cons_succ]
          refine wpAnyH_take (i := 5) (v := ?_) rfl (by kernel_rfl) (by kernel_rfl) (by kernel_rfl) (fun _ _ _ h => h) (Or.inl ⟨by rfl, ?_⟩) (sK _ (fun _ => rfl)) ?_
          rotate_left
          · (intro wS hSw; (try dsimp only at hSw); go_simp; try with_reducible rfl)
          simp only [Act.put, List.getElem_toArray, List.getElem_cons_zero, List.getElem_cons_succ, List.setIfInBounds_toArray, List.set_cons_zero, List.set_cons_succ]
          refine wpAnyH_take (i := 6) (v := ?_) rfl (by kernel_rfl) (by kernel_rfl) (by kernel_rfl) (fun _ _ _ h => h) (Or.inl ⟨by rfl, ?_⟩) (sK _ (fun _ => rfl)) ?_
          rotate_left
          · (intro wS hSw; (try dsimp only at hSw); go_simp; try with_reducible rfl)
          simp only [Act.put, List.getElem_toArray, List.getElem_cons_zero, List.getElem_cons_succ, List.setIfInBounds_toArray, List.set_cons_zero, List.set_cons_succ]
          refine wpAnyH_take (i := 7) (v := ?_) rfl (by kernel_rfl) (by kernel_rfl) (by kernel_rfl) (fun _ _ _ h => h) (Or.inl ⟨by rfl, ?_⟩) (sK _ (fun _ => rfl)) ?_
          rotate_left
          · (intro wS hSw; (try dsimp only at hSw); go_simp; try with_reducible rfl)
          simp only [Act.put, List.getElem_toArray, List.getElem_cons_zero, List.getElem_cons_succ, List.setIfInBounds_toArray, List.set_cons_zero, List.set_cons_succ]
          refine wpAnyH_take (i := 8) (v := ?_) rfl (by kernel_rfl) (by kernel_rfl) (by kernel_rfl) (fun _ _ _ h => h) (Or.inl ⟨by rfl, ?_⟩) (sK _ (fun _ => rfl)) ?_
          rotate_left
          · (intro wS hSw; (try dsimp only at hSw); go_simp; try with_reducible rfl)
          simp only [Act.put, List.getElem_toArray, List.getElem_cons_zero, List.getElem_cons_succ, List.setIfInBounds_toArray, List.set_cons_zero, List.set_cons_succ]
          refine wpAnyH_take (i := 9) (v := ?_) rfl (by kernel_rfl) (by kernel_rfl) (by kernel_rfl) (fun _ _ _ h => h) (Or.inl ⟨by rfl, ?_⟩) (sK _ (fun _ => rfl)) ?_
          rotate_left
          · (intro wS hSw; (try dsimp only at hSw); go_simp; try with_reducible rfl)
          simp only [Act.put, List.getElem_toArray, List.getElem_cons_zero, List.getElem_cons_succ, List.setIfInBounds_toArray, List.set_cons_zero, List.set_cons_succ]
          refine wpAnyH_ready (rs := [10]) (by kernel_rfl) (by simp) ?_
          refine AllReadyH.cons rfl (fun K hK => ?_) AllReadyH.nil
          go_simp
          refine (hc.out (q + 1)).mono ?_
          rintro e r1 ⟨rfl, k2, rfl⟩
          go_wp2_with fail
          refine hK.out _ _ (sK _ (fun _ => rfl)) (fun hHeld => ?_)
          clear hK K hHeld
          try simp only [Act.put, List.getElem_toArray, List.getElem_cons_zero, List.getElem_cons_succ, List.setIfInBounds_toArray, List.set_cons_zero, List.set_cons_succ]
          refine wpAnyH_take (i := 11) (v := ?_) rfl (by kernel_rfl) (by kernel_rfl) (by kernel_rfl) (fun _ _ _ h => h) (Or.inl ⟨by rfl, ?_⟩) (sK _ (fun _ => rfl)) ?_
          rotate_left
          · (intro wS hSw; (try dsimp only at hSw); go_simp; try with_reducible rfl)
          simp only [Act.put, List.getElem_toArray, List.getElem_cons_zero, List.getElem_cons_succ, List.setIfInBounds_toArray, List.set_cons_zero, List.set_cons_succ]
          refine wpAnyH_done (by kernel_rfl) ?_ _
          cases r
          · obtain rfl : R = false := HF.out rfl
            clear HR HF HT hz
            go_wp2_with fail
            go_ret
            first | exact ⟨rfl, below_drewN HE.out _⟩ | exact ⟨rfl, below_drewN (below_drewN HE.out _) _⟩ | exact ⟨rfl, below_drewN (below_drewN HE.out (q + 1)) _⟩
          · have hall2 := Lib.hid (HT.out rfl)
            clear HF HT
            go_wp2_with fail
            go_roundw
            case rel => exact ⟨k + 1, by omega, hall2, by go_num, q + 1 + k2, by first | rfl | exact World.drewN_drewN .. ⟩
            case measure => simp [intOf]; omega
        · obtain rfl : R = true := by
            rw [← HR.out]
            have hw : sameW n n ln ln2 v v2 = true := (sameW_true ..).2 ⟨rfl, fun q hq => hall.out q (by omega)⟩
            simp [sameL, hw, hz.out]
          clear hall HR hz
          go_wp2_with fail
          go_ret
          exact ⟨rfl, below_drewN HE.out _⟩
end Go.Proofs.Ytnjdeikikdieoaa
