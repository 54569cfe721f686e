/- Zones: the document's least, by all cuts; the law's right. -/
import Derived.Test.YtbjcigkakeffmaaRows
import Derived.Test.YtbjcigkakeffmaaRowKit
import Derived.Test.YtbjcigkakeffmaaRowS
import Derived.Test.YtbjcigkakeffmaaRowZ
import Derived.Test.YtbjcigkakeffmaaSlicesEq
import Derived.Test.YtbjcigkakeffmaaSlicesEqM
import Derived.Test.YtbjcigkakeffmaaRowL
import Derived.Test.YtbjcigkakeffmaaRowM
import Derived.Test.YtbjcigkakeffmaaMakeI
import Derived.Test.YtbjcigkakeffmaaBlocks
import Derived.Test.YtbjcigkakeffmaaZoneMath
import Derived.Test.YtbjcigkakeffmaaShelf
import Derived.WalkKit
import Derived.IntWalk
import Derived.Lib.Hide
import Derived.WalkSpells
import Derived.WalkLawsBesides
import Derived.Laws.CopyOwn
import Derived.Laws.MakeOwn
import Derived.Laws.OwnMore
import Derived.OwnWalk
import Derived.Deep.QuietTactic
import Derived.BigQuiet
import Derived.Deep.RegionHeld3
import Derived.Deep.LoopGhost
import Derived.BigRegion
import Derived.Deep.AppendLies
import Derived.Maps.AppendAt
import Derived.Below
import Derived.Test.YtbjcigkakeffmaaZoneA
import Derived.Test.YtbjcigkakeffmaaZoneB
import Derived.Test.YtbjcigkakeffmaaZoneC
import Derived.Test.YtbjcigkakeffmaaEnergyMin
namespace Go.Proofs.Ytbjcigkakeffmaa
open Go.RowKit
set_option linter.unusedSimpArgs false
set_option linter.unusedVariables false
/-- a block that holds a row of numbers -/
def rowA (b : Nat → Int) (n : Nat) : Array Value := ((rowL b n).map (Value.int .i64)).toArray
theorem rowA_at (b : Nat → Int) {n i : Nat} (h : i < n) : (rowA b n)[i]? = some (.int .i64 (b i)) := by
  unfold rowA
  rw [List.getElem?_toArray, List.getElem?_map, zat_get (by rw [rowL_len]; exact h), rowL_at _ h]; rfl
theorem rowA_set (b : Nat → Int) (n i : Nat) (u : Int) : (rowA b n).setIfInBounds i (.int .i64 u) = rowA (fun j => if j = i then u else b j) n := by
  unfold rowA
  rw [List.setIfInBounds_toArray, ← List.map_set, rowL_set]
theorem rowA_congr {a b : Nat → Int} {n : Nat} (h : ∀ i, i < n → a i = b i) : rowA a n = rowA b n := by unfold rowA; rw [rowL_congr h]
theorem own_blk {w : World} {base g n : Nat} {e : TypeId} {xs : List Value} (h : w.ownsRow base e 1 (.slice (some ⟨g, 0, none⟩) n n) n xs) (hl : xs.length = n) : Blk w g e xs.toArray := by
  rcases h.2 with ⟨h0, _⟩ | ⟨g', cap', cur, hv, hg, hh, hnc, hcm, hcs, htake⟩
  · simp at h0
  · simp at hv
    obtain ⟨rfl, rfl⟩ := hv
    have e1 : cur.toList = xs := by
      rw [← htake, List.take_of_length_le]
      rw [Array.length_toList, hcs]; exact Nat.le_refl _
    have e2 : cur = xs.toArray := by rw [← e1]
    rw [← e2]; exact hh
theorem made_row (n : Nat) : (madeCells (Value.cells (.int .i64 0)) (n * 1)).toList = (rowL (fun _ => 0) n).map (Value.int .i64) := mkZeros n
theorem nx_succ (l b : Nat → Int) (n j : Nat) : nxZ l b n (j + 1) = min (nxZ l b n j) (max (sumZ l n - sumZ l (n - 1 - j)) (b (n - 1 - j))) := rfl
theorem sum_succ (l : Nat → Int) (k : Nat) : sumZ l (k + 1) = sumZ l k + l k := rfl
theorem best_succ (l : Nat → Int) (z n : Nat) : bestZ l (z + 1) n = nxZ l (bestZ l z) n n := rfl
set_option maxRecDepth 100000 in
set_option maxHeartbeats 16000000 in
theorem rleast60_any (A : Option Addr) (c n : Nat) (zs : List Int) (k : Int) (w : World) (hn : zs.length = n) (h40 : n ≤ 40) (hr : RdI w .i64 A zs) (hq : RgZ zs n k) :
    Calls Try.prog 16 #[.slice A n c, .int .i64 k] w fun e w' => e = .returned (.int .i64 (lsZ zs n k)) ∧ Below w.heap.size w w' := by
  obtain ⟨i0, hi, hz0, hz1, hz2⟩ := info_parts mkInfo
  obtain ⟨h1, h128, hk, hz⟩ := hq
  have HSB : Hid (∀ i, i ≤ n → 0 ≤ sumZ (zat zs) i ∧ sumZ (zat zs) i ≤ 1048576 * 128) := Lib.hid fun i hi => by
    have a := sum_mono (l := zat zs) (n := n) (fun i hi => (hz i hi).1) (k := i) (m := 0) (by omega) hi
    have b := sum_bd (l := zat zs) (H := 1048576) i (fun q hq => (hz q (by omega)).2)
    have e0 : sumZ (zat zs) 0 = 0 := rfl
    omega
  have HSM : Hid (∀ a b, a ≤ b → b ≤ n → sumZ (zat zs) a ≤ sumZ (zat zs) b) := Lib.hid fun a b h1 h2 => sum_mono (l := zat zs) (n := n) (fun i hi => (hz i hi).1) h1 h2
  have HR := Lib.hid hr
  have HN := Lib.hid hn
  have nI : (n : Int) ≤ 40 := by omega
  clear hr hn hz
  by_cases hkn : (n : Int) < k
  · go_enter Try.func16, Try.ntmps16
    go_wp2_with (at_make; refine wpList_make_full _ rfl _ _ 37 rfl w.heap.size 3 i0 (.int .i64 0) 1 Try.underlying37 hi hz0 hz1 _ _ _ _ (n + 1) rfl rfl (by omega) (by omega) (by rw [hz2]; omega) (by unfold maxLen; omega) (Nat.le_refl _) ?_; intro w0 hown0 hgrow0)
    have B0 : Blk w0 w.heap.size 3 (rowA (fun t => if t ≤ 0 then sumZ (zat zs) t else 0) (n + 1)) := by
      have h := own_blk hown0 (by rw [made_row, List.length_map, rowL_len])
      rw [made_row] at h
      have e : rowA (fun t => if t ≤ 0 then sumZ (zat zs) t else 0) (n + 1) = ((rowL (fun _ => 0) (n + 1)).map (Value.int .i64)).toArray := by
        show rowA _ _ = rowA _ _
        exact rowA_congr fun i hi => by
          by_cases c : i ≤ 0
          · obtain rfl : i = 0 := by omega
            rfl
          · show (if i ≤ 0 then _ else _) = _; rw [if_neg c]
      rw [e]; exact h
    have E0 : Below w.heap.size w w0 := (Below.refl _ _).grown hgrow0 (Nat.le_refl _) (fun k h => by cases h)
    have HB0 := Lib.hid B0; have HE0 := Lib.hid E0
    clear hown0 hgrow0 B0 E0
    go_wp2_with fail
    go_loopg [6] n (fun g i wr => ∃ j : Nat, j ≤ n ∧ g = n - j ∧ i = .int .i64 j ∧ Below w.heap.size w wr ∧ Blk wr w.heap.size 3 (rowA (fun t => if t ≤ j then sumZ (zat zs) t else 0) (n + 1)))
    case atStart => exact ⟨0, by omega, rfl, rfl, HE0.out, HB0.out⟩
    case round =>
      obtain ⟨j, hj, rfl, rfl, hE, hBl⟩ := hrel
      rename World => w1
      have EE := Lib.hid hE; have BB := Lib.hid hBl
      clear hE hBl
      by_cases h : j < n
      · obtain ⟨bb, oo, rfl, hlt, hc⟩ := rdI_row (HR.out.kept EE.out) (by have := HN.out; omega)
        have ck : w1.drew.cell? ⟨bb, oo + j, none⟩ = some (.int .i64 (zat zs j)) := hc j (by have := HN.out; omega)
        have cb : w1.drew.cell? ⟨w.heap.size, j, none⟩ = some (.int .i64 (sumZ (zat zs) j)) := by
          have h1 := BB.out.cell j
          rw [rowA_at _ (by omega), if_pos (Nat.le_refl _)] at h1; exact h1
        have cs : w1.drew.cell? ⟨w.heap.size, j + 1, none⟩ = some (.int .i64 0) := by
          have h1 := BB.out.cell (j + 1)
          rw [rowA_at _ (by omega), if_neg (by omega)] at h1; exact h1
        have cf : w1.drew.frozen? ⟨w.heap.size, j + 1, none⟩ = false := BB.out.frozen (j + 1)
        have SB := HSB.out j (by omega)
        have SB2 := HSB.out (j + 1) (by omega)
        have SS := sum_succ (zat zs) j
        obtain ⟨x, hx⟩ : ∃ x, zat zs j = x := ⟨_, rfl⟩
        obtain ⟨S, hS⟩ : ∃ x, sumZ (zat zs) j = x := ⟨_, rfl⟩
        obtain ⟨S2, hS2⟩ : ∃ x, sumZ (zat zs) (j + 1) = x := ⟨_, rfl⟩
        rw [hx, hS, hS2] at SS
        rw [hx] at ck
        rw [hS] at cb SB
        rw [hS2] at SB2
        have hw : IntKind.i64.wrap (S + x) = S2 := by rw [← SS]; exact IntWalk.i64_in _ (by omega)
        have hw1 : IntKind.i64.wrap ((j : Int) + 1) = j + 1 := IntWalk.i64_in _ (by omega)
        have jI : (j : Int) < (n : Int) := by omega
        have j0 : (0 : Int) ≤ (j : Int) := by omega
        have j1 : (j : Int) < (n : Int) + 1 := by omega
        have j2 : (j : Int) + 1 < (n : Int) + 1 := by omega
        have j3 : (0 : Int) ≤ (j : Int) + 1 := by omega
        have j4 : ((j : Int) + 1).toNat = j + 1 := by omega
        have B2 : Hid (Blk (w1.drew.setCell ⟨w.heap.size, j + 1, none⟩ (.int .i64 S2)) w.heap.size 3 (rowA (fun t => if t ≤ j + 1 then sumZ (zat zs) t else 0) (n + 1))) := Lib.hid (by
          have h1 := (BB.out.draw 1).set (j + 1) (.int .i64 S2)
          rw [rowA_set] at h1
          rw [rowA_congr (b := fun t => if t = j + 1 then S2 else if t ≤ j then sumZ (zat zs) t else 0) fun i hi => by
            show (if i ≤ j + 1 then _ else _) = (if i = j + 1 then _ else _)
            by_cases c : i = j + 1
            · rw [if_pos (by omega), if_pos c, c, hS2]
            · rw [if_neg c]
              by_cases c2 : i ≤ j
              · rw [if_pos (by omega), if_pos c2]
              · rw [if_neg (by omega), if_neg c2]]
          exact h1)
        have E2 : Hid (Below w.heap.size w (w1.drew.setCell ⟨w.heap.size, j + 1, none⟩ (.int .i64 S2))) := Lib.hid (EE.out.drew.setCell (Nat.le_refl _) _)
        clear hc hx hS hS2 SS SB SB2
        go_wp2_with fail
        go_region
        go_wp2_with fail
        go_roundg (n - (j + 1))
        case measure => omega
        case rel => exact ⟨j + 1, by omega, rfl, by go_num, E2.out, B2.out⟩
      · obtain rfl : j = n := by omega
        have hj' : ¬ ((j : Int) < j) := by omega
        have B1 : Hid (Blk w1 w.heap.size 3 (rowA (bestZ (zat zs) 0) (j + 1))) := Lib.hid (by
          rw [rowA_congr (a := bestZ (zat zs) 0) (b := fun t => if t ≤ j then sumZ (zat zs) t else 0) fun i hi => by show sumZ (zat zs) i = (if i ≤ j then _ else _); rw [if_pos (by omega)]]
          exact BB.out)
        clear BB
        go_wp2_with fail
        go_loopg [5, 7, 8, 9, 10, 11, 12] (j - 1) (fun g v5 i a8 a9 a10 a11 a12 wr => ∃ z g5 : Nat, 1 ≤ z ∧ z ≤ j ∧ g = j - z ∧ i = .int .i64 z ∧ v5 = .slice (some ⟨g5, 0, none⟩) (j + 1) (j + 1) ∧ w.heap.size ≤ g5 ∧ Below w.heap.size w wr ∧ Blk wr g5 3 (rowA (bestZ (zat zs) (z - 1)) (j + 1)))
        case atStart => exact ⟨1, w.heap.size, by omega, by omega, rfl, rfl, rfl, Nat.le_refl _, EE.out, B1.out⟩
        case round =>
          clear EE B1 HB0 HE0
          obtain ⟨z, g5, hz1', hz2', rfl, rfl, rfl, hg5, hE, hBl⟩ := hrel
          rename World => w2
          have EE := Lib.hid hE; have BB := Lib.hid hBl
          clear hE hBl
          by_cases h : z < j
          · have zI : (z : Int) < (j : Int) := by omega
            go_wp2_with (at_make; refine wpList_make_full _ rfl _ _ 37 rfl w2.heap.size 3 i0 (.int .i64 0) 1 Try.underlying37 hi hz0 hz1 _ _ _ _ (j + 1) rfl rfl (by omega) (by omega) (by rw [hz2]; omega) (by unfold maxLen; omega) (Nat.le_refl _) ?_; intro w3 hown0 hgrow0)
            have C0 : Blk w3 w2.heap.size 3 (rowA (fun t => if t < 1 then bestZ (zat zs) z t else 0) (j + 1)) := by
              have h := own_blk hown0 (by rw [made_row, List.length_map, rowL_len])
              rw [made_row] at h
              have e : rowA (fun t => if t < 1 then bestZ (zat zs) z t else 0) (j + 1) = ((rowL (fun _ => 0) (j + 1)).map (Value.int .i64)).toArray := by
                show rowA _ _ = rowA _ _
                exact rowA_congr fun i hi => by
                  by_cases c : i < 1
                  · obtain rfl : i = 0 := by omega
                    exact best_zero _ z
                  · show (if i < 1 then _ else _) = _; rw [if_neg c]
              rw [e]; exact h
            have E3 : Below w.heap.size w w3 := EE.out.grown hgrow0 EE.out.size (fun k h => by cases h)
            have B3 := Blk.grownR BB.out hgrow0 (fun k h => by cases h)
            have hne : g5 ≠ w2.heap.size := by have := BB.out.lt; omega
            have hge : w.heap.size ≤ w2.heap.size := EE.out.size
            obtain ⟨g8, hg8⟩ : ∃ g, w2.heap.size = g := ⟨_, rfl⟩
            rw [hg8] at C0 hne hge ⊢
            have HC := Lib.hid C0; have HE3 := Lib.hid E3; have HB3 := Lib.hid B3
            clear hown0 hgrow0 C0 E3 B3 hg8 EE BB
            go_wp2_with fail
            go_loopg [9, 10, 11, 12] (j + 1 - 1) (fun g i a10 a11 a12 wr => ∃ x : Nat, 1 ≤ x ∧ x ≤ j + 1 ∧ g = j + 1 - x ∧ i = .int .i64 x ∧ Below w.heap.size w wr ∧ Blk wr g5 3 (rowA (bestZ (zat zs) (z - 1)) (j + 1)) ∧ Blk wr g8 3 (rowA (fun t => if t < x then bestZ (zat zs) z t else 0) (j + 1)))
            case atStart => exact ⟨1, by omega, by omega, rfl, rfl, HE3.out, HB3.out, HC.out⟩
            case round =>
              clear HC HE3 HB3
              obtain ⟨x, hx1, hx2, rfl, rfl, hE, hB5, hB8⟩ := hrel
              rename World => w4
              have EE := Lib.hid hE; have B5 := Lib.hid hB5; have B8 := Lib.hid hB8
              clear hE hB5 hB8
              by_cases hx : x < j + 1
              · have xI : (x : Int) ≤ (j : Int) := by omega
                have x0 : (0 : Int) ≤ (x : Int) := by omega
                have x1 : (x : Int) < (j : Int) + 1 := by omega
                have cb : w4.cell? ⟨g5, x, none⟩ = some (.int .i64 (bestZ (zat zs) (z - 1) x)) := by
                  have h1 := B5.out.cell x
                  rw [rowA_at _ hx] at h1; exact h1
                have c8 : w4.cell? ⟨g8, x, none⟩ = some (.int .i64 0) := by
                  have h1 := B8.out.cell x
                  rw [rowA_at _ hx, if_neg (by omega)] at h1; exact h1
                have cf : w4.frozen? ⟨g8, x, none⟩ = false := B8.out.frozen x
                have ZZ : z = (z - 1) + 1 := by omega
                obtain ⟨bv, hbv⟩ : ∃ b, bestZ (zat zs) (z - 1) x = b := ⟨_, rfl⟩
                rw [hbv] at cb
                have D8 : Hid (Blk (w4.setCell ⟨g8, x, none⟩ (.int .i64 bv)) g8 3 (rowA (fun t => if t < x then bestZ (zat zs) z t else if t = x then nxZ (zat zs) (bestZ (zat zs) (z - 1)) x 0 else 0) (j + 1))) := Lib.hid (by
                  have h1 := B8.out.set x (.int .i64 bv)
                  rw [rowA_set] at h1
                  rw [rowA_congr (b := fun t => if t = x then bv else if t < x then bestZ (zat zs) z t else 0) fun i hi => by
                    show (if i < x then _ else if i = x then _ else _) = (if i = x then _ else _)
                    by_cases c : i = x
                    · rw [if_neg (by omega), if_pos c, if_pos c, ← hbv]; rfl
                    · rw [if_neg c, if_neg c]]
                  exact h1)
                have D5 : Hid (Blk (w4.setCell ⟨g8, x, none⟩ (.int .i64 bv)) g5 3 (rowA (bestZ (zat zs) (z - 1)) (j + 1))) := Lib.hid (B5.out.far (p := ⟨g8, x, none⟩) hne _)
                have DE : Hid (Below w.heap.size w (w4.setCell ⟨g8, x, none⟩ (.int .i64 bv))) := Lib.hid (EE.out.setCell hge _)
                clear hbv EE B5 B8
                have hw1 : (x : Int) - 1 = ((x - 1 : Nat) : Int) := by omega
                go_wp2_with fail
                obtain ⟨w5, hw5⟩ : ∃ X, w4.setCell ⟨g8, x, none⟩ (.int .i64 bv) = X := ⟨_, rfl⟩
                rw [hw5] at D8 D5 DE ⊢
                clear hw5 cb c8 cf
                go_loopg [10, 11, 12] x (fun g sm i a12 wr => ∃ q : Nat, q ≤ x ∧ g = x - q ∧ i = .int .i64 ((x : Int) - 1 - q) ∧ sm = .int .i64 (sumZ (zat zs) x - sumZ (zat zs) (x - q)) ∧ Below w.heap.size w wr ∧ Blk wr g5 3 (rowA (bestZ (zat zs) (z - 1)) (j + 1)) ∧ Blk wr g8 3 (rowA (fun t => if t < x then bestZ (zat zs) z t else if t = x then nxZ (zat zs) (bestZ (zat zs) (z - 1)) x q else 0) (j + 1)))
                case atStart => exact ⟨0, by omega, rfl, by first | rfl | (congr 1; omega), by rw [Nat.sub_zero, Int.sub_self], DE.out, D5.out, D8.out⟩
                case round =>
                  clear DE D5 D8
                  obtain ⟨q, hq, rfl, rfl, rfl, hE, hB5, hB8⟩ := hrel
                  rename World => w6
                  have EE := Lib.hid hE; have B5 := Lib.hid hB5; have B8 := Lib.hid hB8
                  clear hE hB5 hB8
                  by_cases hq2 : q < x
                  · obtain ⟨m, hm⟩ : ∃ m, x - 1 - q = m := ⟨_, rfl⟩
                    have hmI : (x : Int) - 1 - q = (m : Int) := by omega
                    have hmx : x - q = m + 1 := by omega
                    rw [hmI, hmx]
                    have mn : m < j := by omega
                    obtain ⟨bb, oo, rfl, hlt, hc⟩ := rdI_row (HR.out.kept EE.out) (by have := HN.out; omega)
                    have ck := hc m (by have := HN.out; omega)
                    have cb : w6.cell? ⟨g5, m, none⟩ = some (.int .i64 (bestZ (zat zs) (z - 1) m)) := by
                      have h1 := B5.out.cell m
                      rw [rowA_at _ (by omega)] at h1; exact h1
                    have c8 : w6.cell? ⟨g8, x, none⟩ = some (.int .i64 (nxZ (zat zs) (bestZ (zat zs) (z - 1)) x q)) := by
                      have h1 := B8.out.cell x
                      rw [rowA_at _ hx, if_neg (by omega), if_pos rfl] at h1; exact h1
                    have cf : w6.frozen? ⟨g8, x, none⟩ = false := B8.out.frozen x
                    have NS : nxZ (zat zs) (bestZ (zat zs) (z - 1)) x (q + 1) = min (nxZ (zat zs) (bestZ (zat zs) (z - 1)) x q) (max (sumZ (zat zs) x - sumZ (zat zs) m) (bestZ (zat zs) (z - 1) m)) := by rw [nx_succ, hm]
                    have SS := sum_succ (zat zs) m
                    have SB := HSB.out m (by omega)
                    have SB2 := HSB.out (m + 1) (by omega)
                    have SB3 := HSB.out x (by omega)
                    have SM := HSM.out (m + 1) x (by omega) (by omega)
                    have SM2 := HSM.out m x (by omega) (by omega)
                    have KEEP : Hid (∀ v, nxZ (zat zs) (bestZ (zat zs) (z - 1)) x (q + 1) = v → Blk (w6.setCell ⟨g8, x, none⟩ (.int .i64 v)) g8 3 (rowA (fun t => if t < x then bestZ (zat zs) z t else if t = x then nxZ (zat zs) (bestZ (zat zs) (z - 1)) x (q + 1) else 0) (j + 1))) := Lib.hid (fun v hv => by
                      have h1 := B8.out.set x (.int .i64 v)
                      rw [rowA_set] at h1
                      rw [rowA_congr (b := fun t => if t = x then v else if t < x then bestZ (zat zs) z t else if t = x then nxZ (zat zs) (bestZ (zat zs) (z - 1)) x q else 0) fun i hi => by
                        show (if i < x then _ else if i = x then _ else _) = (if i = x then _ else if i < x then _ else if i = x then _ else _)
                        by_cases c : i = x
                        · rw [if_neg (by omega), if_pos c, if_pos c, hv]
                        · rw [if_neg c, if_neg c, if_neg c]]
                      exact h1)
                    have SAME : Hid (nxZ (zat zs) (bestZ (zat zs) (z - 1)) x (q + 1) = nxZ (zat zs) (bestZ (zat zs) (z - 1)) x q → Blk w6 g8 3 (rowA (fun t => if t < x then bestZ (zat zs) z t else if t = x then nxZ (zat zs) (bestZ (zat zs) (z - 1)) x (q + 1) else 0) (j + 1))) := Lib.hid (fun hv => by rw [hv]; exact B8.out)
                    have F5 : ∀ v, Hid (Blk (w6.setCell ⟨g8, x, none⟩ v) g5 3 (rowA (bestZ (zat zs) (z - 1)) (j + 1))) := fun v => Lib.hid (B5.out.far (p := ⟨g8, x, none⟩) hne _)
                    have FE : ∀ v, Hid (Below w.heap.size w (w6.setCell ⟨g8, x, none⟩ v)) := fun v => Lib.hid (EE.out.setCell hge _)
                    obtain ⟨NQ, hNQ⟩ : ∃ v, nxZ (zat zs) (bestZ (zat zs) (z - 1)) x q = v := ⟨_, rfl⟩
                    obtain ⟨NQ1, hNQ1⟩ : ∃ v, nxZ (zat zs) (bestZ (zat zs) (z - 1)) x (q + 1) = v := ⟨_, rfl⟩
                    obtain ⟨bm, hbm⟩ : ∃ v, bestZ (zat zs) (z - 1) m = v := ⟨_, rfl⟩
                    obtain ⟨lm, hlm⟩ : ∃ v, zat zs m = v := ⟨_, rfl⟩
                    obtain ⟨Sx, hSx⟩ : ∃ v, sumZ (zat zs) x = v := ⟨_, rfl⟩
                    obtain ⟨Sm, hSm⟩ : ∃ v, sumZ (zat zs) m = v := ⟨_, rfl⟩
                    obtain ⟨Sm1, hSm1⟩ : ∃ v, sumZ (zat zs) (m + 1) = v := ⟨_, rfl⟩
                    have PSM : Hid (sumZ (zat zs) (x - (q + 1)) = Sm) := Lib.hid (by rw [show x - (q + 1) = m by omega]; exact hSm)
                    have PSX : Hid (sumZ (zat zs) x = Sx) := Lib.hid hSx
                    have HNQ1 := Lib.hid hNQ1
                    rw [hNQ] at c8 NS SAME
                    rw [hNQ1] at NS SAME KEEP
                    rw [hbm] at cb NS
                    rw [hlm] at ck SS
                    rw [hSx] at NS SB3 SM SM2
                    rw [hSm] at NS SS SB SM2
                    rw [hSm1] at SS SB2 SM
                    rw [hSx, hSm1]
                    have hw : IntKind.i64.wrap (Sx - Sm1 + lm) = Sx - Sm := by rw [show Sx - Sm1 + lm = Sx - Sm by omega]; exact IntWalk.i64_in _ (by omega)
                    have hw' : wrap64 (Sx - Sm1 + lm) = Sx - Sm := by unfold wrap64; omega
                    have hs : Sx - Sm1 + lm = Sx - Sm := by omega
                    obtain ⟨D, hD⟩ : ∃ v, Sx - Sm = v := ⟨_, rfl⟩
                    have HD := Lib.hid hD
                    rw [hD] at hw hw' hs NS
                    have hwD : wrap64 D = D := by unfold wrap64; omega
                    have hwI : IntKind.i64.wrap D = D := IntWalk.i64_in _ (by omega)
                    clear hw hw'
                    have m0 : (0 : Int) ≤ (m : Int) := by omega
                    have m1 : (m : Int) < (j : Int) := by omega
                    have m2 : (m : Int) < (j : Int) + 1 := by omega
                    have hmw : IntKind.i64.wrap ((m : Int) - 1) = (m : Int) - 1 := IntWalk.i64_in _ (by omega)
                    have hne2 : g8 ≠ g5 := fun e => hne e.symm
                    have mE : (m : Int) - 1 = (x : Int) - 1 - ((q + 1 : Nat) : Int) := by omega
                    have HME := Lib.hid mE
                    clear hc hNQ hNQ1 hbm hlm hSx hSm hSm1 SS SB SB2 SB3 SM SM2 hD hmI hmx hm mE
                    have FE0 := EE; have F50 := B5
                    clear EE B5 B8
                    by_cases c1 : D < bm
                    · have NS2 : NQ1 = min NQ bm := by rw [NS, show max D bm = bm by omega]
                      clear NS
                      by_cases c2 : bm < NQ
                      · have V := KEEP.out bm (by rw [NS2]; omega)
                        have HV := Lib.hid V; have H5 := F5 (.int .i64 bm); have HE := FE (.int .i64 bm)
                        clear V NS2 KEEP SAME F5 FE
                        go_wp2_with fail
                        go_roundg (x - (q + 1))
                        case measure => omega
                        case rel => exact ⟨q + 1, by omega, rfl, by rw [HME.out], by rw [PSM.out, PSX.out, HD.out], HE.out, H5.out, by rw [HNQ1.out]; exact HV.out⟩
                      · have V := SAME.out (by rw [NS2]; omega)
                        have HV := Lib.hid V
                        have c3 : NQ ≤ bm := by omega
                        clear c2
                        clear V NS2 KEEP SAME F5 FE
                        go_wp2_with fail
                        go_roundg (x - (q + 1))
                        case measure => omega
                        case rel => exact ⟨q + 1, by omega, rfl, by rw [HME.out], by rw [PSM.out, PSX.out, HD.out], FE0.out, F50.out, by rw [HNQ1.out]; exact HV.out⟩
                    · have NS2 : NQ1 = min NQ D := by rw [NS, show max D bm = D by omega]
                      have c1' : bm ≤ D := by omega
                      clear NS c1
                      by_cases c2 : D < NQ
                      · have V := KEEP.out D (by rw [NS2]; omega)
                        have HV := Lib.hid V; have H5 := F5 (.int .i64 D); have HE := FE (.int .i64 D)
                        clear V NS2 KEEP SAME F5 FE
                        go_wp2_with fail
                        go_roundg (x - (q + 1))
                        case measure => omega
                        case rel => exact ⟨q + 1, by omega, rfl, by rw [HME.out], by rw [PSM.out, PSX.out, HD.out], HE.out, H5.out, by rw [HNQ1.out]; exact HV.out⟩
                      · have V := SAME.out (by rw [NS2]; omega)
                        have HV := Lib.hid V
                        have c3 : NQ ≤ D := by omega
                        clear c2
                        clear V NS2 KEEP SAME F5 FE
                        go_wp2_with fail
                        go_roundg (x - (q + 1))
                        case measure => omega
                        case rel => exact ⟨q + 1, by omega, rfl, by rw [HME.out], by rw [PSM.out, PSX.out, HD.out], FE0.out, F50.out, by rw [HNQ1.out]; exact HV.out⟩
                  · obtain rfl : q = x := by omega
                    have hneg : (q : Int) - 1 - q = -1 := by omega
                    rw [hneg]
                    have N8 : Hid (Blk w6 g8 3 (rowA (fun t => if t < q + 1 then bestZ (zat zs) z t else 0) (j + 1))) := Lib.hid (by
                      rw [rowA_congr (b := fun t => if t < q then bestZ (zat zs) z t else if t = q then nxZ (zat zs) (bestZ (zat zs) (z - 1)) q q else 0) fun i hi => by
                        show (if i < q + 1 then _ else _) = (if i < q then _ else if i = q then _ else _)
                        by_cases c : i = q
                        · rw [if_pos (by omega), if_neg (by omega), if_pos c, c]
                          have e := best_succ (zat zs) (z - 1) q
                          rw [show z - 1 + 1 = z by omega] at e
                          exact e
                        · by_cases c2 : i < q
                          · rw [if_pos (by omega), if_pos c2]
                          · rw [if_neg (by omega), if_neg c2, if_neg c]]
                      exact B8.out)
                    clear B8
                    go_wp2_with fail
                    go_roundg (j + 1 - (q + 1))
                    case measure => omega
                    case rel => exact ⟨q + 1, by omega, by omega, rfl, by go_num, EE.out, B5.out, N8.out⟩
              · obtain rfl : x = j + 1 := by omega
                have hx' : ¬ (((j + 1 : Nat) : Int) ≤ (j : Int)) := by omega
                have hx'' : (j : Int) < ((j + 1 : Nat) : Int) := by omega
                have N8 : Hid (Blk w4 g8 3 (rowA (bestZ (zat zs) (z + 1 - 1)) (j + 1))) := Lib.hid (by
                  rw [rowA_congr (a := bestZ (zat zs) (z + 1 - 1)) (b := fun t => if t < j + 1 then bestZ (zat zs) z t else 0) fun i hi => by
                    show _ = (if i < j + 1 then _ else _)
                    rw [if_pos hi]; rfl]
                  exact B8.out)
                clear B8 B5
                go_wp2_with fail
                go_roundg (j - (z + 1))
                case measure => omega
                case rel => exact ⟨z + 1, g8, by omega, by omega, rfl, by go_num, rfl, hge, EE.out, N8.out⟩
          · have zK : z = j := by omega
            have zI : ¬ ((z : Int) < (j : Int)) := by omega
            have cb : w2.cell? ⟨g5, j, none⟩ = some (.int .i64 (lsZ zs j k)) := by
              have h1 := BB.out.cell j
              rw [rowA_at _ (by omega)] at h1
              rw [h1]
              show some (Value.int .i64 (bestZ (zat zs) (z - 1) j)) = some (Value.int .i64 (bestZ (zat zs) (min (k : Int).toNat j - 1) j))
              rw [show min (k : Int).toNat j - 1 = z - 1 by omega]
            have j0 : (0 : Int) ≤ (j : Int) := by omega
            have j1 : (j : Int) < (j : Int) + 1 := by omega
            clear BB
            go_wp2_with fail
            go_ret
            exact ⟨rfl, EE.out⟩
  · obtain ⟨K, hK⟩ : ∃ K : Nat, k = K := ⟨k.toNat, by omega⟩
    subst hK
    have hkn' : ((K : Nat) : Int) ≤ (n : Int) := by omega
    go_enter Try.func16, Try.ntmps16
    go_wp2_with (at_make; refine wpList_make_full _ rfl _ _ 37 rfl w.heap.size 3 i0 (.int .i64 0) 1 Try.underlying37 hi hz0 hz1 _ _ _ _ (n + 1) rfl rfl (by omega) (by omega) (by rw [hz2]; omega) (by unfold maxLen; omega) (Nat.le_refl _) ?_; intro w0 hown0 hgrow0)
    have B0 : Blk w0 w.heap.size 3 (rowA (fun t => if t ≤ 0 then sumZ (zat zs) t else 0) (n + 1)) := by
      have h := own_blk hown0 (by rw [made_row, List.length_map, rowL_len])
      rw [made_row] at h
      have e : rowA (fun t => if t ≤ 0 then sumZ (zat zs) t else 0) (n + 1) = ((rowL (fun _ => 0) (n + 1)).map (Value.int .i64)).toArray := by
        show rowA _ _ = rowA _ _
        exact rowA_congr fun i hi => by
          by_cases c : i ≤ 0
          · obtain rfl : i = 0 := by omega
            rfl
          · show (if i ≤ 0 then _ else _) = _; rw [if_neg c]
      rw [e]; exact h
    have E0 : Below w.heap.size w w0 := (Below.refl _ _).grown hgrow0 (Nat.le_refl _) (fun k h => by cases h)
    have HB0 := Lib.hid B0; have HE0 := Lib.hid E0
    clear hown0 hgrow0 B0 E0
    go_wp2_with fail
    go_loopg [6] n (fun g i wr => ∃ j : Nat, j ≤ n ∧ g = n - j ∧ i = .int .i64 j ∧ Below w.heap.size w wr ∧ Blk wr w.heap.size 3 (rowA (fun t => if t ≤ j then sumZ (zat zs) t else 0) (n + 1)))
    case atStart => exact ⟨0, by omega, rfl, rfl, HE0.out, HB0.out⟩
    case round =>
      obtain ⟨j, hj, rfl, rfl, hE, hBl⟩ := hrel
      rename World => w1
      have EE := Lib.hid hE; have BB := Lib.hid hBl
      clear hE hBl
      by_cases h : j < n
      · obtain ⟨bb, oo, rfl, hlt, hc⟩ := rdI_row (HR.out.kept EE.out) (by have := HN.out; omega)
        have ck : w1.drew.cell? ⟨bb, oo + j, none⟩ = some (.int .i64 (zat zs j)) := hc j (by have := HN.out; omega)
        have cb : w1.drew.cell? ⟨w.heap.size, j, none⟩ = some (.int .i64 (sumZ (zat zs) j)) := by
          have h1 := BB.out.cell j
          rw [rowA_at _ (by omega), if_pos (Nat.le_refl _)] at h1; exact h1
        have cs : w1.drew.cell? ⟨w.heap.size, j + 1, none⟩ = some (.int .i64 0) := by
          have h1 := BB.out.cell (j + 1)
          rw [rowA_at _ (by omega), if_neg (by omega)] at h1; exact h1
        have cf : w1.drew.frozen? ⟨w.heap.size, j + 1, none⟩ = false := BB.out.frozen (j + 1)
        have SB := HSB.out j (by omega)
        have SB2 := HSB.out (j + 1) (by omega)
        have SS := sum_succ (zat zs) j
        obtain ⟨x, hx⟩ : ∃ x, zat zs j = x := ⟨_, rfl⟩
        obtain ⟨S, hS⟩ : ∃ x, sumZ (zat zs) j = x := ⟨_, rfl⟩
        obtain ⟨S2, hS2⟩ : ∃ x, sumZ (zat zs) (j + 1) = x := ⟨_, rfl⟩
        rw [hx, hS, hS2] at SS
        rw [hx] at ck
        rw [hS] at cb SB
        rw [hS2] at SB2
        have hw : IntKind.i64.wrap (S + x) = S2 := by rw [← SS]; exact IntWalk.i64_in _ (by omega)
        have hw1 : IntKind.i64.wrap ((j : Int) + 1) = j + 1 := IntWalk.i64_in _ (by omega)
        have jI : (j : Int) < (n : Int) := by omega
        have j0 : (0 : Int) ≤ (j : Int) := by omega
        have j1 : (j : Int) < (n : Int) + 1 := by omega
        have j2 : (j : Int) + 1 < (n : Int) + 1 := by omega
        have j3 : (0 : Int) ≤ (j : Int) + 1 := by omega
        have j4 : ((j : Int) + 1).toNat = j + 1 := by omega
        have B2 : Hid (Blk (w1.drew.setCell ⟨w.heap.size, j + 1, none⟩ (.int .i64 S2)) w.heap.size 3 (rowA (fun t => if t ≤ j + 1 then sumZ (zat zs) t else 0) (n + 1))) := Lib.hid (by
          have h1 := (BB.out.draw 1).set (j + 1) (.int .i64 S2)
          rw [rowA_set] at h1
          rw [rowA_congr (b := fun t => if t = j + 1 then S2 else if t ≤ j then sumZ (zat zs) t else 0) fun i hi => by
            show (if i ≤ j + 1 then _ else _) = (if i = j + 1 then _ else _)
            by_cases c : i = j + 1
            · rw [if_pos (by omega), if_pos c, c, hS2]
            · rw [if_neg c]
              by_cases c2 : i ≤ j
              · rw [if_pos (by omega), if_pos c2]
              · rw [if_neg (by omega), if_neg c2]]
          exact h1)
        have E2 : Hid (Below w.heap.size w (w1.drew.setCell ⟨w.heap.size, j + 1, none⟩ (.int .i64 S2))) := Lib.hid (EE.out.drew.setCell (Nat.le_refl _) _)
        clear hc hx hS hS2 SS SB SB2
        go_wp2_with fail
        go_region
        go_wp2_with fail
        go_roundg (n - (j + 1))
        case measure => omega
        case rel => exact ⟨j + 1, by omega, rfl, by go_num, E2.out, B2.out⟩
      · obtain rfl : j = n := by omega
        have hj' : ¬ ((j : Int) < j) := by omega
        have B1 : Hid (Blk w1 w.heap.size 3 (rowA (bestZ (zat zs) 0) (j + 1))) := Lib.hid (by
          rw [rowA_congr (a := bestZ (zat zs) 0) (b := fun t => if t ≤ j then sumZ (zat zs) t else 0) fun i hi => by show sumZ (zat zs) i = (if i ≤ j then _ else _); rw [if_pos (by omega)]]
          exact BB.out)
        clear BB
        go_wp2_with fail
        go_loopg [5, 7, 8, 9, 10, 11, 12] (K - 1) (fun g v5 i a8 a9 a10 a11 a12 wr => ∃ z g5 : Nat, 1 ≤ z ∧ z ≤ K ∧ g = K - z ∧ i = .int .i64 z ∧ v5 = .slice (some ⟨g5, 0, none⟩) (j + 1) (j + 1) ∧ w.heap.size ≤ g5 ∧ Below w.heap.size w wr ∧ Blk wr g5 3 (rowA (bestZ (zat zs) (z - 1)) (j + 1)))
        case atStart => exact ⟨1, w.heap.size, by omega, by omega, rfl, rfl, rfl, Nat.le_refl _, EE.out, B1.out⟩
        case round =>
          clear EE B1 HB0 HE0
          obtain ⟨z, g5, hz1', hz2', rfl, rfl, rfl, hg5, hE, hBl⟩ := hrel
          rename World => w2
          have EE := Lib.hid hE; have BB := Lib.hid hBl
          clear hE hBl
          by_cases h : z < K
          · have zI : (z : Int) < (K : Int) := by omega
            go_wp2_with (at_make; refine wpList_make_full _ rfl _ _ 37 rfl w2.heap.size 3 i0 (.int .i64 0) 1 Try.underlying37 hi hz0 hz1 _ _ _ _ (j + 1) rfl rfl (by omega) (by omega) (by rw [hz2]; omega) (by unfold maxLen; omega) (Nat.le_refl _) ?_; intro w3 hown0 hgrow0)
            have C0 : Blk w3 w2.heap.size 3 (rowA (fun t => if t < 1 then bestZ (zat zs) z t else 0) (j + 1)) := by
              have h := own_blk hown0 (by rw [made_row, List.length_map, rowL_len])
              rw [made_row] at h
              have e : rowA (fun t => if t < 1 then bestZ (zat zs) z t else 0) (j + 1) = ((rowL (fun _ => 0) (j + 1)).map (Value.int .i64)).toArray := by
                show rowA _ _ = rowA _ _
                exact rowA_congr fun i hi => by
                  by_cases c : i < 1
                  · obtain rfl : i = 0 := by omega
                    exact best_zero _ z
                  · show (if i < 1 then _ else _) = _; rw [if_neg c]
              rw [e]; exact h
            have E3 : Below w.heap.size w w3 := EE.out.grown hgrow0 EE.out.size (fun k h => by cases h)
            have B3 := Blk.grownR BB.out hgrow0 (fun k h => by cases h)
            have hne : g5 ≠ w2.heap.size := by have := BB.out.lt; omega
            have hge : w.heap.size ≤ w2.heap.size := EE.out.size
            obtain ⟨g8, hg8⟩ : ∃ g, w2.heap.size = g := ⟨_, rfl⟩
            rw [hg8] at C0 hne hge ⊢
            have HC := Lib.hid C0; have HE3 := Lib.hid E3; have HB3 := Lib.hid B3
            clear hown0 hgrow0 C0 E3 B3 hg8 EE BB
            go_wp2_with fail
            go_loopg [9, 10, 11, 12] (j + 1 - 1) (fun g i a10 a11 a12 wr => ∃ x : Nat, 1 ≤ x ∧ x ≤ j + 1 ∧ g = j + 1 - x ∧ i = .int .i64 x ∧ Below w.heap.size w wr ∧ Blk wr g5 3 (rowA (bestZ (zat zs) (z - 1)) (j + 1)) ∧ Blk wr g8 3 (rowA (fun t => if t < x then bestZ (zat zs) z t else 0) (j + 1)))
            case atStart => exact ⟨1, by omega, by omega, rfl, rfl, HE3.out, HB3.out, HC.out⟩
            case round =>
              clear HC HE3 HB3
              obtain ⟨x, hx1, hx2, rfl, rfl, hE, hB5, hB8⟩ := hrel
              rename World => w4
              have EE := Lib.hid hE; have B5 := Lib.hid hB5; have B8 := Lib.hid hB8
              clear hE hB5 hB8
              by_cases hx : x < j + 1
              · have xI : (x : Int) ≤ (j : Int) := by omega
                have x0 : (0 : Int) ≤ (x : Int) := by omega
                have x1 : (x : Int) < (j : Int) + 1 := by omega
                have cb : w4.cell? ⟨g5, x, none⟩ = some (.int .i64 (bestZ (zat zs) (z - 1) x)) := by
                  have h1 := B5.out.cell x
                  rw [rowA_at _ hx] at h1; exact h1
                have c8 : w4.cell? ⟨g8, x, none⟩ = some (.int .i64 0) := by
                  have h1 := B8.out.cell x
                  rw [rowA_at _ hx, if_neg (by omega)] at h1; exact h1
                have cf : w4.frozen? ⟨g8, x, none⟩ = false := B8.out.frozen x
                have ZZ : z = (z - 1) + 1 := by omega
                obtain ⟨bv, hbv⟩ : ∃ b, bestZ (zat zs) (z - 1) x = b := ⟨_, rfl⟩
                rw [hbv] at cb
                have D8 : Hid (Blk (w4.setCell ⟨g8, x, none⟩ (.int .i64 bv)) g8 3 (rowA (fun t => if t < x then bestZ (zat zs) z t else if t = x then nxZ (zat zs) (bestZ (zat zs) (z - 1)) x 0 else 0) (j + 1))) := Lib.hid (by
                  have h1 := B8.out.set x (.int .i64 bv)
                  rw [rowA_set] at h1
                  rw [rowA_congr (b := fun t => if t = x then bv else if t < x then bestZ (zat zs) z t else 0) fun i hi => by
                    show (if i < x then _ else if i = x then _ else _) = (if i = x then _ else _)
                    by_cases c : i = x
                    · rw [if_neg (by omega), if_pos c, if_pos c, ← hbv]; rfl
                    · rw [if_neg c, if_neg c]]
                  exact h1)
                have D5 : Hid (Blk (w4.setCell ⟨g8, x, none⟩ (.int .i64 bv)) g5 3 (rowA (bestZ (zat zs) (z - 1)) (j + 1))) := Lib.hid (B5.out.far (p := ⟨g8, x, none⟩) hne _)
                have DE : Hid (Below w.heap.size w (w4.setCell ⟨g8, x, none⟩ (.int .i64 bv))) := Lib.hid (EE.out.setCell hge _)
                clear hbv EE B5 B8
                have hw1 : (x : Int) - 1 = ((x - 1 : Nat) : Int) := by omega
                go_wp2_with fail
                obtain ⟨w5, hw5⟩ : ∃ X, w4.setCell ⟨g8, x, none⟩ (.int .i64 bv) = X := ⟨_, rfl⟩
                rw [hw5] at D8 D5 DE ⊢
                clear hw5 cb c8 cf
                go_loopg [10, 11, 12] x (fun g sm i a12 wr => ∃ q : Nat, q ≤ x ∧ g = x - q ∧ i = .int .i64 ((x : Int) - 1 - q) ∧ sm = .int .i64 (sumZ (zat zs) x - sumZ (zat zs) (x - q)) ∧ Below w.heap.size w wr ∧ Blk wr g5 3 (rowA (bestZ (zat zs) (z - 1)) (j + 1)) ∧ Blk wr g8 3 (rowA (fun t => if t < x then bestZ (zat zs) z t else if t = x then nxZ (zat zs) (bestZ (zat zs) (z - 1)) x q else 0) (j + 1)))
                case atStart => exact ⟨0, by omega, rfl, by first | rfl | (congr 1; omega), by rw [Nat.sub_zero, Int.sub_self], DE.out, D5.out, D8.out⟩
                case round =>
                  clear DE D5 D8
                  obtain ⟨q, hq, rfl, rfl, rfl, hE, hB5, hB8⟩ := hrel
                  rename World => w6
                  have EE := Lib.hid hE; have B5 := Lib.hid hB5; have B8 := Lib.hid hB8
                  clear hE hB5 hB8
                  by_cases hq2 : q < x
                  · obtain ⟨m, hm⟩ : ∃ m, x - 1 - q = m := ⟨_, rfl⟩
                    have hmI : (x : Int) - 1 - q = (m : Int) := by omega
                    have hmx : x - q = m + 1 := by omega
                    rw [hmI, hmx]
                    have mn : m < j := by omega
                    obtain ⟨bb, oo, rfl, hlt, hc⟩ := rdI_row (HR.out.kept EE.out) (by have := HN.out; omega)
                    have ck := hc m (by have := HN.out; omega)
                    have cb : w6.cell? ⟨g5, m, none⟩ = some (.int .i64 (bestZ (zat zs) (z - 1) m)) := by
                      have h1 := B5.out.cell m
                      rw [rowA_at _ (by omega)] at h1; exact h1
                    have c8 : w6.cell? ⟨g8, x, none⟩ = some (.int .i64 (nxZ (zat zs) (bestZ (zat zs) (z - 1)) x q)) := by
                      have h1 := B8.out.cell x
                      rw [rowA_at _ hx, if_neg (by omega), if_pos rfl] at h1; exact h1
                    have cf : w6.frozen? ⟨g8, x, none⟩ = false := B8.out.frozen x
                    have NS : nxZ (zat zs) (bestZ (zat zs) (z - 1)) x (q + 1) = min (nxZ (zat zs) (bestZ (zat zs) (z - 1)) x q) (max (sumZ (zat zs) x - sumZ (zat zs) m) (bestZ (zat zs) (z - 1) m)) := by rw [nx_succ, hm]
                    have SS := sum_succ (zat zs) m
                    have SB := HSB.out m (by omega)
                    have SB2 := HSB.out (m + 1) (by omega)
                    have SB3 := HSB.out x (by omega)
                    have SM := HSM.out (m + 1) x (by omega) (by omega)
                    have SM2 := HSM.out m x (by omega) (by omega)
                    have KEEP : Hid (∀ v, nxZ (zat zs) (bestZ (zat zs) (z - 1)) x (q + 1) = v → Blk (w6.setCell ⟨g8, x, none⟩ (.int .i64 v)) g8 3 (rowA (fun t => if t < x then bestZ (zat zs) z t else if t = x then nxZ (zat zs) (bestZ (zat zs) (z - 1)) x (q + 1) else 0) (j + 1))) := Lib.hid (fun v hv => by
                      have h1 := B8.out.set x (.int .i64 v)
                      rw [rowA_set] at h1
                      rw [rowA_congr (b := fun t => if t = x then v else if t < x then bestZ (zat zs) z t else if t = x then nxZ (zat zs) (bestZ (zat zs) (z - 1)) x q else 0) fun i hi => by
                        show (if i < x then _ else if i = x then _ else _) = (if i = x then _ else if i < x then _ else if i = x then _ else _)
                        by_cases c : i = x
                        · rw [if_neg (by omega), if_pos c, if_pos c, hv]
                        · rw [if_neg c, if_neg c, if_neg c]]
                      exact h1)
                    have SAME : Hid (nxZ (zat zs) (bestZ (zat zs) (z - 1)) x (q + 1) = nxZ (zat zs) (bestZ (zat zs) (z - 1)) x q → Blk w6 g8 3 (rowA (fun t => if t < x then bestZ (zat zs) z t else if t = x then nxZ (zat zs) (bestZ (zat zs) (z - 1)) x (q + 1) else 0) (j + 1))) := Lib.hid (fun hv => by rw [hv]; exact B8.out)
                    have F5 : ∀ v, Hid (Blk (w6.setCell ⟨g8, x, none⟩ v) g5 3 (rowA (bestZ (zat zs) (z - 1)) (j + 1))) := fun v => Lib.hid (B5.out.far (p := ⟨g8, x, none⟩) hne _)
                    have FE : ∀ v, Hid (Below w.heap.size w (w6.setCell ⟨g8, x, none⟩ v)) := fun v => Lib.hid (EE.out.setCell hge _)
                    obtain ⟨NQ, hNQ⟩ : ∃ v, nxZ (zat zs) (bestZ (zat zs) (z - 1)) x q = v := ⟨_, rfl⟩
                    obtain ⟨NQ1, hNQ1⟩ : ∃ v, nxZ (zat zs) (bestZ (zat zs) (z - 1)) x (q + 1) = v := ⟨_, rfl⟩
                    obtain ⟨bm, hbm⟩ : ∃ v, bestZ (zat zs) (z - 1) m = v := ⟨_, rfl⟩
                    obtain ⟨lm, hlm⟩ : ∃ v, zat zs m = v := ⟨_, rfl⟩
                    obtain ⟨Sx, hSx⟩ : ∃ v, sumZ (zat zs) x = v := ⟨_, rfl⟩
                    obtain ⟨Sm, hSm⟩ : ∃ v, sumZ (zat zs) m = v := ⟨_, rfl⟩
                    obtain ⟨Sm1, hSm1⟩ : ∃ v, sumZ (zat zs) (m + 1) = v := ⟨_, rfl⟩
                    have PSM : Hid (sumZ (zat zs) (x - (q + 1)) = Sm) := Lib.hid (by rw [show x - (q + 1) = m by omega]; exact hSm)
                    have PSX : Hid (sumZ (zat zs) x = Sx) := Lib.hid hSx
                    have HNQ1 := Lib.hid hNQ1
                    rw [hNQ] at c8 NS SAME
                    rw [hNQ1] at NS SAME KEEP
                    rw [hbm] at cb NS
                    rw [hlm] at ck SS
                    rw [hSx] at NS SB3 SM SM2
                    rw [hSm] at NS SS SB SM2
                    rw [hSm1] at SS SB2 SM
                    rw [hSx, hSm1]
                    have hw : IntKind.i64.wrap (Sx - Sm1 + lm) = Sx - Sm := by rw [show Sx - Sm1 + lm = Sx - Sm by omega]; exact IntWalk.i64_in _ (by omega)
                    have hw' : wrap64 (Sx - Sm1 + lm) = Sx - Sm := by unfold wrap64; omega
                    have hs : Sx - Sm1 + lm = Sx - Sm := by omega
                    obtain ⟨D, hD⟩ : ∃ v, Sx - Sm = v := ⟨_, rfl⟩
                    have HD := Lib.hid hD
                    rw [hD] at hw hw' hs NS
                    have hwD : wrap64 D = D := by unfold wrap64; omega
                    have hwI : IntKind.i64.wrap D = D := IntWalk.i64_in _ (by omega)
                    clear hw hw'
                    have m0 : (0 : Int) ≤ (m : Int) := by omega
                    have m1 : (m : Int) < (j : Int) := by omega
                    have m2 : (m : Int) < (j : Int) + 1 := by omega
                    have hmw : IntKind.i64.wrap ((m : Int) - 1) = (m : Int) - 1 := IntWalk.i64_in _ (by omega)
                    have hne2 : g8 ≠ g5 := fun e => hne e.symm
                    have mE : (m : Int) - 1 = (x : Int) - 1 - ((q + 1 : Nat) : Int) := by omega
                    have HME := Lib.hid mE
                    clear hc hNQ hNQ1 hbm hlm hSx hSm hSm1 SS SB SB2 SB3 SM SM2 hD hmI hmx hm mE
                    have FE0 := EE; have F50 := B5
                    clear EE B5 B8
                    by_cases c1 : D < bm
                    · have NS2 : NQ1 = min NQ bm := by rw [NS, show max D bm = bm by omega]
                      clear NS
                      by_cases c2 : bm < NQ
                      · have V := KEEP.out bm (by rw [NS2]; omega)
                        have HV := Lib.hid V; have H5 := F5 (.int .i64 bm); have HE := FE (.int .i64 bm)
                        clear V NS2 KEEP SAME F5 FE
                        go_wp2_with fail
                        go_roundg (x - (q + 1))
                        case measure => omega
                        case rel => exact ⟨q + 1, by omega, rfl, by rw [HME.out], by rw [PSM.out, PSX.out, HD.out], HE.out, H5.out, by rw [HNQ1.out]; exact HV.out⟩
                      · have V := SAME.out (by rw [NS2]; omega)
                        have HV := Lib.hid V
                        have c3 : NQ ≤ bm := by omega
                        clear c2
                        clear V NS2 KEEP SAME F5 FE
                        go_wp2_with fail
                        go_roundg (x - (q + 1))
                        case measure => omega
                        case rel => exact ⟨q + 1, by omega, rfl, by rw [HME.out], by rw [PSM.out, PSX.out, HD.out], FE0.out, F50.out, by rw [HNQ1.out]; exact HV.out⟩
                    · have NS2 : NQ1 = min NQ D := by rw [NS, show max D bm = D by omega]
                      have c1' : bm ≤ D := by omega
                      clear NS c1
                      by_cases c2 : D < NQ
                      · have V := KEEP.out D (by rw [NS2]; omega)
                        have HV := Lib.hid V; have H5 := F5 (.int .i64 D); have HE := FE (.int .i64 D)
                        clear V NS2 KEEP SAME F5 FE
                        go_wp2_with fail
                        go_roundg (x - (q + 1))
                        case measure => omega
                        case rel => exact ⟨q + 1, by omega, rfl, by rw [HME.out], by rw [PSM.out, PSX.out, HD.out], HE.out, H5.out, by rw [HNQ1.out]; exact HV.out⟩
                      · have V := SAME.out (by rw [NS2]; omega)
                        have HV := Lib.hid V
                        have c3 : NQ ≤ D := by omega
                        clear c2
                        clear V NS2 KEEP SAME F5 FE
                        go_wp2_with fail
                        go_roundg (x - (q + 1))
                        case measure => omega
                        case rel => exact ⟨q + 1, by omega, rfl, by rw [HME.out], by rw [PSM.out, PSX.out, HD.out], FE0.out, F50.out, by rw [HNQ1.out]; exact HV.out⟩
                  · obtain rfl : q = x := by omega
                    have hneg : (q : Int) - 1 - q = -1 := by omega
                    rw [hneg]
                    have N8 : Hid (Blk w6 g8 3 (rowA (fun t => if t < q + 1 then bestZ (zat zs) z t else 0) (j + 1))) := Lib.hid (by
                      rw [rowA_congr (b := fun t => if t < q then bestZ (zat zs) z t else if t = q then nxZ (zat zs) (bestZ (zat zs) (z - 1)) q q else 0) fun i hi => by
                        show (if i < q + 1 then _ else _) = (if i < q then _ else if i = q then _ else _)
                        by_cases c : i = q
                        · rw [if_pos (by omega), if_neg (by omega), if_pos c, c]
                          have e := best_succ (zat zs) (z - 1) q
                          rw [show z - 1 + 1 = z by omega] at e
                          exact e
                        · by_cases c2 : i < q
                          · rw [if_pos (by omega), if_pos c2]
                          · rw [if_neg (by omega), if_neg c2, if_neg c]]
                      exact B8.out)
                    clear B8
                    go_wp2_with fail
                    go_roundg (j + 1 - (q + 1))
                    case measure => omega
                    case rel => exact ⟨q + 1, by omega, by omega, rfl, by go_num, EE.out, B5.out, N8.out⟩
              · obtain rfl : x = j + 1 := by omega
                have hx' : ¬ (((j + 1 : Nat) : Int) ≤ (j : Int)) := by omega
                have hx'' : (j : Int) < ((j + 1 : Nat) : Int) := by omega
                have N8 : Hid (Blk w4 g8 3 (rowA (bestZ (zat zs) (z + 1 - 1)) (j + 1))) := Lib.hid (by
                  rw [rowA_congr (a := bestZ (zat zs) (z + 1 - 1)) (b := fun t => if t < j + 1 then bestZ (zat zs) z t else 0) fun i hi => by
                    show _ = (if i < j + 1 then _ else _)
                    rw [if_pos hi]; rfl]
                  exact B8.out)
                clear B8 B5
                go_wp2_with fail
                go_roundg (K - (z + 1))
                case measure => omega
                case rel => exact ⟨z + 1, g8, by omega, by omega, rfl, by go_num, rfl, hge, EE.out, N8.out⟩
          · have zK : z = K := by omega
            have zI : ¬ ((z : Int) < (K : Int)) := by omega
            have cb : w2.cell? ⟨g5, j, none⟩ = some (.int .i64 (lsZ zs j (K : Int))) := by
              have h1 := BB.out.cell j
              rw [rowA_at _ (by omega)] at h1
              rw [h1]
              show some (Value.int .i64 (bestZ (zat zs) (z - 1) j)) = some (Value.int .i64 (bestZ (zat zs) (min ((K : Int) : Int).toNat j - 1) j))
              rw [show min ((K : Int) : Int).toNat j - 1 = z - 1 by omega]
            have j0 : (0 : Int) ≤ (j : Int) := by omega
            have j1 : (j : Int) < (j : Int) + 1 := by omega
            clear BB
            go_wp2_with fail
            go_ret
            exact ⟨rfl, EE.out⟩
end Go.Proofs.Ytbjcigkakeffmaa
