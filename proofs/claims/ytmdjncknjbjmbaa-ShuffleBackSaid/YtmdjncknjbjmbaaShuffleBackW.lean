/- The walk of ShuffleBack: it answers true for every input, and leaves all old blocks as they were. No condition. -/
import Derived.Test.YtmdjncknjbjmbaaRows
import Derived.Test.YtmdjncknjbjmbaaRowKit
import Derived.Test.YtmdjncknjbjmbaaSlicesEq
import Derived.Test.YtmdjncknjbjmbaaSlicesEqM
import Derived.Test.YtmdjncknjbjmbaaRowL
import Derived.Test.YtmdjncknjbjmbaaMakeI
import Derived.Test.YtmdjncknjbjmbaaBlocks
import Derived.Test.YtmdjncknjbjmbaaWordsA
import Derived.Test.YtmdjncknjbjmbaaShufMath
import Derived.Test.YtmdjncknjbjmbaaShufA
import Derived.Test.YtmdjncknjbjmbaaShufB
import Derived.Test.YtmdjncknjbjmbaaShufC
import Derived.WalkKit
import Derived.ProofKit
import Derived.OpenShut
import Derived.Deep.QuietTactic
import Derived.BigQuiet
import Derived.Lib.SmallJoins
import Derived.Lib.Hide
import Derived.WalkSpells
import Derived.WalkLawsBesides
import Derived.IntWalk
import Derived.OwnWalk
import Derived.Laws.CopyOwn
import Derived.Laws.MakeOwn
import Derived.Laws.OwnMore
import Derived.Deep.LoopGhost
namespace Go.Proofs.Ytmdjncknjbjmbaa.shuffleBack
open Go.ChangeShapes Go.WideShapes Go.ChangeAt Go.RowKit Go.Joins
set_option linter.unusedSimpArgs false
set_option linter.unusedVariables false

theorem good_congr {z z' : Nat → Int} {n k : Nat} (h : ∀ i, i < k → z i = z' i) (hg : Good z n k) : Good z' n k := fun i hi => by
  obtain ⟨h1, h2, h3⟩ := hg i hi
  refine ⟨by rw [← h i hi]; exact h1, by rw [← h i hi]; exact h2, fun j hj => ?_⟩
  rw [← h j (by omega), ← h i hi]
  exact h3 j hj
theorem back_congr {z z' : Nat → Int} (v : Nat) : ∀ k, (∀ j, j < k → z j = z' j) → backV z k v = backV z' k v
  | 0, _ => rfl
  | k + 1, h => by rw [back_succ, back_succ, h k (by omega), back_congr v k fun j hj => h j (by omega)]
theorem rowL_zat (zs : List Int) : rowL (zat zs) zs.length = zs := by
  apply List.ext_getElem
  · rw [rowL_len]
  · intro i h1 h2
    simp only [rowL, List.getElem_map, List.getElem_range]
    unfold zat
    rw [List.getD_eq_getElem?_getD, List.getElem?_eq_getElem h2]
    rfl
theorem twice {zs : List Int} (h : Good (zat zs) zs.length zs.length) : rowL (backV (zat (rowL (backV (zat zs) zs.length) zs.length)) (rowL (backV (zat zs) zs.length) zs.length).length) (rowL (backV (zat zs) zs.length) zs.length).length = zs ∧ Good (zat (rowL (backV (zat zs) zs.length) zs.length)) (rowL (backV (zat zs) zs.length) zs.length).length (rowL (backV (zat zs) zs.length) zs.length).length := by
  rw [rowL_len]
  have hc : ∀ j, j < zs.length → zat (rowL (backV (zat zs) zs.length) zs.length) j = backV (zat zs) zs.length j := fun j hj => rowL_at _ hj
  refine ⟨?_, good_congr (fun i hi => (hc i hi).symm) (back_good h)⟩
  rw [rowL_congr (b := zat zs) (fun i hi => by rw [back_congr i zs.length hc]; exact back_back h hi)]
  exact rowL_zat zs
set_option maxHeartbeats 1000000 in
theorem walk_big (A : Option Addr) (m c : Nat) (w : World) (hm : 300 < m) :
    Calls Try.prog 8 #[.slice A m c] w fun e w' => e = .returned (.bool true) ∧ Below w.heap.size w w' := by
  go_enter Try.func8, Try.ntmps8
  go_wp2_with fail
  go_ret
  exact ⟨rfl, Below.refl _ _⟩
set_option maxRecDepth 100000 in
set_option maxHeartbeats 8000000 in
theorem walk_in (A : Option Addr) (c : Nat) (zs : List Int) (w : World) (hr : RdI w .i64 A zs) (hl : zs.length ≤ 300) (hmc : zs.length ≤ c) (hcm : c ≤ maxLen) :
    Calls Try.prog 8 #[.slice A zs.length c] w fun e w' => e = .returned (.bool true) ∧ Below w.heap.size w w' := by
  have HR := Lib.hid hr
  have HCM := Lib.hid hcm
  have WF : Hid (∀ i, i < zs.length → -9223372036854775808 ≤ zat zs i ∧ zat zs i ≤ 9223372036854775807) := Lib.hid fun i hi => by obtain ⟨_, _, _, _, hw⟩ := hr i hi; exact bounds_i64 hw
  have CELL : Hid (∀ W : World, W.heap = w.heap → ∀ k, k ≤ zs.length → ∀ j, j < k → ∃ b o, A = some ⟨b, o, none⟩ ∧ W.cell? ⟨b, o + j, none⟩ = some (.int .i64 (zat zs j))) := Lib.hid fun W hW k hk j hj => by
    obtain ⟨b, o, e, _, hc⟩ := rdI_row hr (by omega)
    refine ⟨b, o, e, ?_⟩
    rw [World.cell?_of_block (w := w) (by rw [hW])]
    exact hc j (by omega)
  clear hr hcm
  go_enter Try.func8, Try.ntmps8
  go_wp2_with fail
  go_loopg [3, 4] zs.length (fun g s i wr => ∃ (k q : Nat) (b : Bool), k ≤ zs.length ∧ g = zs.length - k ∧ i = .int .i64 k ∧ s = .bool b ∧ Hid (b = true ↔ Good (zat zs) zs.length k) ∧ wr = w.drewN q)
  case atStart => exact ⟨0, 0, true, by omega, rfl, rfl, rfl, Lib.hid ⟨fun _ => good_zero _ _, fun _ => rfl⟩, rfl⟩
  case round =>
    obtain ⟨k, q, b, hk, rfl, rfl, rfl, HB, rfl⟩ := hrel
    by_cases hkl : k < zs.length
    · cases b
      · have HN : Hid (false = true ↔ Good (zat zs) zs.length (k + 1)) := Lib.hid ⟨fun h => (by cases h), fun h => HB.out.2 (good_less h (by omega))⟩
        go_wp2_with fail
        go_quiet (fail)
        go_wp2_with fail
        go_roundg (zs.length - (k + 1))
        case measure => omega
        case rel => exact ⟨k + 1, _, false, by omega, rfl, by go_num, rfl, HN, rfl⟩
      · have hG := HB.out.1 rfl
        obtain ⟨bb, off, rfl, hlt, hc⟩ := rdI_row HR.out (by omega)
        have c1 := hc k hkl
        have hw := WF.out k hkl
        have YES : Hid (Fresh (zat zs) zs.length k → (true = true ↔ Good (zat zs) zs.length (k + 1))) := Lib.hid fun hf => ⟨fun _ => good_succ.2 ⟨hG, hf⟩, fun _ => rfl⟩
        have NO : Hid (¬ Fresh (zat zs) zs.length k → (false = true ↔ Good (zat zs) zs.length (k + 1))) := Lib.hid fun hf => ⟨fun h => (by cases h), fun h => absurd (good_succ.1 h).2 hf⟩
        have kc : k ≤ c := by omega
        clear hc hG
        by_cases x0 : 0 ≤ zat zs k
        · by_cases x1 : zat zs k < zs.length
          · by_cases hfr : ∃ j, j < k ∧ zat zs j = zat zs k
            · have N := Lib.hid (NO.out (fun hf => by obtain ⟨j, hj, e⟩ := hfr; exact hf.2.2 j hj e))
              have K := Lib.hid (fun W (hW : W.heap = w.heap) => contains_yes (some ⟨bb, off, none⟩) c k (zat zs) (zat zs k) W (CELL.out W hW k hk) (by omega) hfr)
              obtain ⟨x, hx⟩ : ∃ x, zat zs k = x := ⟨_, rfl⟩
              rw [hx] at c1 x0 x1 hw K
              have x2 : decide (0 ≤ x) = true := decide_eq_true x0
              clear hx hfr
              go_wp2_with fail
              go_quiet ((go_at_call 33; exact (K.out _ (by rfl)).mono fun _ _ h => ⟨h.1, _, h.2.symm⟩))
              go_wp2_with fail
              go_roundg (zs.length - (k + 1))
              case measure => omega
              case rel => exact ⟨k + 1, _, false, by omega, rfl, by go_num, rfl, N, rfl⟩
            · have N := Lib.hid (YES.out ⟨x0, x1, fun j hj e => hfr ⟨j, hj, e⟩⟩)
              have K := Lib.hid (fun W (hW : W.heap = w.heap) => contains_no (some ⟨bb, off, none⟩) c k (zat zs) (zat zs k) W (CELL.out W hW k hk) (by omega) (fun j hj e => hfr ⟨j, hj, e⟩))
              obtain ⟨x, hx⟩ : ∃ x, zat zs k = x := ⟨_, rfl⟩
              rw [hx] at c1 x0 x1 hw K
              have x2 : decide (0 ≤ x) = true := decide_eq_true x0
              clear hx hfr
              go_wp2_with fail
              go_quiet ((go_at_call 33; exact (K.out _ (by rfl)).mono fun _ _ h => ⟨h.1, _, h.2.symm⟩))
              go_wp2_with fail
              go_roundg (zs.length - (k + 1))
              case measure => omega
              case rel => exact ⟨k + 1, _, true, by omega, rfl, by go_num, rfl, Lib.hid (by have := N.out; simpa using this), rfl⟩
          · have N := Lib.hid (NO.out (fun hf => x1 hf.2.1))
            obtain ⟨x, hx⟩ : ∃ x, zat zs k = x := ⟨_, rfl⟩
            rw [hx] at c1 x0 x1 hw
            have x2 : decide (x < (zs.length : Int)) = false := decide_eq_false x1
            clear hx
            go_wp2_with fail
            go_quiet (fail)
            go_wp2_with fail
            go_roundg (zs.length - (k + 1))
            case measure => omega
            case rel => exact ⟨k + 1, _, false, by omega, rfl, by go_num, rfl, N, rfl⟩
        · have N := Lib.hid (NO.out (fun hf => x0 hf.1))
          obtain ⟨x, hx⟩ : ∃ x, zat zs k = x := ⟨_, rfl⟩
          rw [hx] at c1 x0 hw
          have x2 : decide (0 ≤ x) = false := decide_eq_false x0
          clear hx
          go_wp2_with fail
          go_quiet (fail)
          go_wp2_with fail
          go_roundg (zs.length - (k + 1))
          case measure => omega
          case rel => exact ⟨k + 1, _, false, by omega, rfl, by go_num, rfl, N, rfl⟩
    · obtain rfl : k = zs.length := by omega
      cases b
      · obtain ⟨m, hm, g1, g2⟩ := good_first zs.length (fun h => by have := HB.out.2 h; cases this)
        have K := Lib.hid (sback_bad A c zs (w.drewN q) HR.out (by omega) m hm g1 g2)
        clear g1 g2 hm
        go_wp2_with fail
        refine K.out.mono ?_
        rintro e w1 ⟨rfl, hb1⟩
        go_wp2_with (go_at_call 35; refine (salive _).mono ?_; rintro e w2 ⟨rfl, hb2⟩)
        go_ret
        have hb0 : Below w.heap.size w w1 := (below_drewN (Below.refl _ _) q).trans hb1
        exact ⟨rfl, hb0.trans (hb2.mono hb0.size)⟩
      · have hG := HB.out.1 rfl
        have K := Lib.hid (sback_ok A c zs (w.drewN q) HR.out (by omega) hG)
        have IS := Lib.hid (fun i v hi (hv : zat zs i = ((v : Nat) : Int)) => back_is (z := zat zs) (n := zs.length) (i := i) (v := v) hv zs.length hG hi)
        have RG := Lib.hid hG
        have TW := Lib.hid (twice hG)
        have LN := Lib.hid (rowL_len (backV (zat zs) zs.length) zs.length)
        clear hG
        go_wp2_with fail
        refine K.out.mono ?_
        rintro e w1 ⟨G, gc, rfl, hRG, hb1⟩
        have HB0 : Hid (Below w.heap.size w w1) := Lib.hid ((below_drewN (Below.refl _ _) q).trans hb1)
        have HRG := Lib.hid hRG
        have HR1 := Lib.hid (HR.out.kept HB0.out)
        clear hRG hb1
        go_wp2_with fail
        go_loopg [7] zs.length (fun g i wr => w1 = wr ∧ ∃ k : Nat, k ≤ zs.length ∧ g = zs.length - k ∧ i = .int .i64 k)
        case atStart => exact ⟨rfl, 0, by omega, rfl, rfl⟩
        case round =>
          obtain ⟨rfl, k, hk, rfl, rfl⟩ := hrel
          by_cases hkl : k < zs.length
          · obtain ⟨b1, o1, rfl, _, hc⟩ := rdI_row HR1.out (by omega)
            obtain ⟨b2, o2, rfl, _, hd⟩ := rdI_row HRG.out (by rw [LN.out]; omega)
            have hF := RG.out k hkl
            obtain ⟨v, hv⟩ := Int.eq_ofNat_of_zero_le hF.1
            have hvn : v < zs.length := by have := hF.2.1; omega
            have hvI : (v : Int) < zs.length := by omega
            have c1 := hc k hkl
            have c2 := hd v (by rw [LN.out]; exact hvn)
            rw [rowL_at _ hvn, IS.out k v hkl hv] at c2
            rw [hv] at c1
            clear hc hd hF hv
            go_wp2_with fail
            go_roundg (zs.length - (k + 1))
            case measure => omega
            case rel => exact ⟨rfl, k + 1, by omega, rfl, by go_num⟩
          · obtain rfl : k = zs.length := by omega
            have K2 := sback_ok G gc (rowL (backV (zat zs) zs.length) zs.length) w1 HRG.out (by rw [LN.out]; omega) TW.out.2
            rw [TW.out.1, LN.out] at K2
            have K2 := Lib.hid K2
            go_wp2_with fail
            refine K2.out.mono ?_
            rintro e w2 ⟨G2, gc2, rfl, hRG2, hb2⟩
            have HE := Lib.hid (equal_int G2 A gc2 c zs w2 hRG2 (HR1.out.kept hb2) (by omega))
            have HB2 := Lib.hid (HB0.out.trans (hb2.mono HB0.out.size))
            clear hRG2 hb2
            go_wp2_with fail
            refine HE.out.mono ?_
            rintro e w3 ⟨rfl, q3, rfl⟩
            go_wp2_with (go_at_call 35; refine (salive _).mono ?_; rintro e w4 ⟨rfl, hb4⟩)
            go_ret
            exact ⟨rfl, (below_drewN HB2.out _).trans (hb4.mono HB2.out.size)⟩
theorem walk {w : World} {A : Option Addr} {c : Nat} {zs : List Int} (hl : zs.length ≤ c) (hm : c ≤ maxLen) (hr : RdI w .i64 A zs) :
    Calls Try.prog 8 #[.slice A zs.length c] w fun e w' => e = .returned (.bool true) ∧ Below w.heap.size w w' := by
  rcases Nat.lt_or_ge 300 zs.length with g | g
  · exact walk_big A _ c w g
  · exact walk_in A c zs w hr g hl hm

end Go.Proofs.Ytmdjncknjbjmbaa.shuffleBack
