/- Contracts of slices.Equal at passengers, of people.Later, Mirror, Back and of what they hand on. -/
import Derived.Test.YteebeiflipfbkaaRows
import Derived.Test.YteebeiflipfbkaaRowKit
import Derived.Test.YteebeiflipfbkaaRowS
import Derived.Test.YteebeiflipfbkaaRowZ
import Derived.Test.YteebeiflipfbkaaSlicesEq
import Derived.Test.YteebeiflipfbkaaRowL
import Derived.Test.YteebeiflipfbkaaRowM
import Derived.Test.YteebeiflipfbkaaPeopleMath
import Derived.WalkKit
import Derived.IntWalk
import Derived.Lib.Hide
import Derived.Lib.SmallJoins
import Derived.WalkSpells
import Derived.WalkLawsBesides
import Derived.Laws.CopyOwn
import Derived.Laws.MakeOwn
import Derived.Laws.OwnMore
import Derived.OwnWalk
import Derived.Maps.AppendAt
import Derived.Deep.QuietTactic
import Derived.Deep.LoopGhost
import Derived.BigQuiet
import Derived.BigRegion
namespace Go.Proofs.Yteebeiflipfbkaa
open Go.RowKit
set_option linter.unusedSimpArgs false
set_option linter.unusedVariables false
set_option maxRecDepth 100000 in
set_option maxHeartbeats 2000000 in
theorem equal_pas (A B : Option Addr) (c d n : Nat) (z : Nat → Nat → Int) (w : World) (ha : RdZ w 4 A n z) (hb : RdZ w 4 B n z) (hl : n ≤ 100000) :
    Calls Try.prog 19 #[.slice A n c, .slice B n d] w fun e w' => e = .returned (.bool true) ∧ ∃ k, w' = w.drewN k := by
  by_cases hn : n = 0
  · subst hn
    clear ha hb
    go_enter Try.func19, Try.ntmps19
    go_wp2_with fail
    go_loop [13] (fun i => i = .int .i64 0) (fun i => 0)
    case atStart => exact rfl
    case round =>
      obtain rfl := hrel
      go_wp2_with fail
      go_ret
      exact ⟨rfl, 0, rfl⟩
  · obtain ⟨b1, o1, rfl, _, h1⟩ := rdZ_row ha (by omega) (by omega)
    obtain ⟨b2, o2, rfl, _, h2⟩ := rdZ_row hb (by omega) (by omega)
    have H1 := Lib.hid h1
    have H2 := Lib.hid h2
    clear ha hb h1 h2
    go_enter Try.func19, Try.ntmps19
    go_wp2_with fail
    go_loopw [13] (fun i wr => ∃ k : Nat, k ≤ n ∧ i = .int .i64 k ∧ ∃ q, wr = w.drewN q) (fun i _ => n - (intOf i).toNat)
    case atStart => exact ⟨0, by omega, rfl, 0, rfl⟩
    case round =>
      obtain ⟨k, hk, rfl, q, rfl⟩ := hrel
      by_cases h : k < n
      · skip
        have a0 : w.cell? ⟨b1, o1 + k * 4, none⟩ = _ := H1.out k 0 h (by omega)
        have a1 := H1.out k 1 h (by omega)
        have a2 := H1.out k 2 h (by omega)
        have a3 := H1.out k 3 h (by omega)
        have e0 : w.cell? ⟨b2, o2 + k * 4, none⟩ = _ := H2.out k 0 h (by omega)
        have e1 := H2.out k 1 h (by omega)
        have e2 := H2.out k 2 h (by omega)
        have e3 := H2.out k 3 h (by omega)
        obtain ⟨x0, hx0⟩ : ∃ x, z k 0 = x := ⟨_, rfl⟩
        rw [hx0] at a0 e0
        obtain ⟨x1, hx1⟩ : ∃ x, z k 1 = x := ⟨_, rfl⟩
        rw [hx1] at a1 e1
        obtain ⟨x2, hx2⟩ : ∃ x, z k 2 = x := ⟨_, rfl⟩
        rw [hx2] at a2 e2
        obtain ⟨x3, hx3⟩ : ∃ x, z k 3 = x := ⟨_, rfl⟩
        rw [hx3] at a3 e3
        clear hx0 hx1 hx2 hx3
        go_wp2_with fail
        go_quiet (fail)
        go_wp2_with fail
        go_roundw
        case rel => exact ⟨k + 1, by omega, by go_num, _, rfl⟩
        case measure => simp [intOf]; omega
      · go_wp2_with fail
        go_ret
        exact ⟨rfl, _, rfl⟩
theorem pasInfo : (Try.prog.info? 35).map (fun i => (i.zero, i.size, i.bytes)) = some (some (.agg #[.int .i64 0, .int .i64 0, .int .i64 0, .int .i64 0]), 4, 32) := by kernel_rfl
theorem pasZeros (n : Nat) : (madeCells (Value.cells (.agg #[.int .i64 0, .int .i64 0, .int .i64 0, .int .i64 0])) (n * 4)).toList = rowM 4 (fun _ _ => 0) n := madeM rfl (by intro j hj; rcases j with _ | _ | _ | _ | j <;> first | rfl | omega)
/-- a row of structs that the call made -/
def MadeM (m n : Nat) (z : Nat → Nat → Int) (w : World) (e : Ending) (w' : World) : Prop := ∃ A c, e = .returned (.slice A n c) ∧ n ≤ c ∧ c ≤ maxLen ∧ RdZ w' m A n z ∧ Below w.heap.size w w'
set_option maxRecDepth 100000 in
set_option maxHeartbeats 1000000 in
theorem later1 (g o b : Nat) (x n y : Int) (w : World) (h1 : w.cell? ⟨g, o + 1, none⟩ = some (.int .i64 x)) (hf : w.frozen? ⟨g, o + 1, none⟩ = false) (hb : w.cell? ⟨b, 0, none⟩ = some (.int .i64 n)) (e : IntKind.i64.wrap (x + n) = y) :
    Calls Try.prog 67 #[.pointer (some ⟨g, o, none⟩), .pointer (some ⟨b, 0, none⟩)] w fun e w' => e = .returned (.tuple #[]) ∧ w' = (w.setCell ⟨g, o + 1, none⟩ (.int .i64 y)).drew := by
  go_enter Try.func67, Try.ntmps67
  go_region
  all_goals go_end0
  all_goals exact ⟨rfl, rfl⟩
set_option maxRecDepth 100000 in
set_option maxHeartbeats 1000000 in
theorem mirror1 (g o b : Nat) (x x2 n y y2 p : Int) (w : World) (h1 : w.cell? ⟨g, o + 2, none⟩ = some (.int .i64 x)) (h2 : w.cell? ⟨g, o + 3, none⟩ = some (.int .i64 x2)) (hf : w.frozen? ⟨g, o + 2, none⟩ = false) (hf2 : w.frozen? ⟨g, o + 3, none⟩ = false) (hb : w.cell? ⟨b, 0, none⟩ = some (.int .i64 n)) (hp : IntKind.i64.wrap (n - 1) = p) (e : IntKind.i64.wrap (p - x) = y) (e2 : IntKind.i64.wrap (p - x2) = y2) :
    Calls Try.prog 68 #[.pointer (some ⟨g, o, none⟩), .pointer (some ⟨b, 0, none⟩)] w fun e w' => e = .returned (.tuple #[]) ∧ w' = ((w.setCell ⟨g, o + 2, none⟩ (.int .i64 y)).setCell ⟨g, o + 3, none⟩ (.int .i64 y2)).drew := by
  go_enter Try.func68, Try.ntmps68
  go_region
  all_goals go_end0
  all_goals exact ⟨rfl, rfl⟩
set_option maxRecDepth 100000 in
set_option maxHeartbeats 1000000 in
theorem back1 (g o : Nat) (x x2 : Int) (w : World) (h1 : w.cell? ⟨g, o + 2, none⟩ = some (.int .i64 x)) (h2 : w.cell? ⟨g, o + 3, none⟩ = some (.int .i64 x2)) (hf : w.frozen? ⟨g, o + 2, none⟩ = false) (hf2 : w.frozen? ⟨g, o + 3, none⟩ = false) :
    Calls Try.prog 69 #[.pointer (some ⟨g, o, none⟩)] w fun e w' => e = .returned (.tuple #[]) ∧ w' = ((w.setCell ⟨g, o + 2, none⟩ (.int .i64 x2)).setCell ⟨g, o + 3, none⟩ (.int .i64 x)).drew := by
  go_enter Try.func69, Try.ntmps69
  go_region
  all_goals go_end0
  all_goals exact ⟨rfl, rfl⟩
/-- a row's cells, as they are copied -/
theorem row_src {w : World} {b off m n : Nat} {z : Nat → Nat → Int} (h0 : 0 < m) (hc : ∀ i j, i < n → j < m → w.cell? ⟨b, off + i * m + j, none⟩ = some (.int .i64 (z i j))) : ∀ (j : Nat) (v : Value), (rowM m z n)[j]? = some v → w.cell? ((⟨b, off, none⟩ : Addr).add j) = some v := by
  intro q v hq
  have hl : q < n * m := by
    rcases Nat.lt_or_ge q (n * m) with h | h
    · exact h
    · rw [List.getElem?_eq_none (by rw [rowM_len]; exact h)] at hq; cases hq
  have e : q / m * m + q % m = q := by rw [Nat.mul_comm]; exact Nat.div_add_mod q m
  have hi : q / m < n := (Nat.div_lt_iff_lt_mul h0).2 hl
  have hj := Nat.mod_lt q h0
  have h1 := rowM_get (z := z) hi hj
  rw [e, hq] at h1
  cases h1
  have h2 := hc _ _ hi hj
  rw [Nat.add_assoc, e] at h2
  by_cases h : q = 0
  · subst h; simpa [Addr.add] using h2
  · simpa [Addr.add, h] using h2
theorem row_one {m n : Nat} {z : Nat → Nat → Int} : ∀ v ∈ rowM m z n, v.oneCell' = true := by
  intro v hv
  unfold rowM at hv
  obtain ⟨x, _, rfl⟩ := List.mem_map.1 hv
  rfl
set_option maxRecDepth 100000 in
set_option maxHeartbeats 4000000 in
theorem changed_later (A : Option Addr) (c n : Nat) (z : Nat → Nat → Int) (bt : Nat) (t : Int) (w : World) (hr : RdZ w 4 A n z) (hn : n ≤ 100) (ht : w.cell? ⟨bt, 0, none⟩ = some (.int .i64 t)) (ht1 : -1099511627776 ≤ t) (ht2 : t ≤ 1099511627776) (hbd : ∀ i j, i < n → j < 4 → -1099511627776 ≤ z i j ∧ z i j ≤ 1099511627776) :
    Calls Try.prog 66 #[.slice A n c, .func (.func 67) #[] #[.pointer (some ⟨bt, 0, none⟩)]] w (MadeM 4 n (laterP z t) w) := by
  obtain ⟨i0, hi, hz0, hz1, hz2⟩ := info_parts pasInfo
  have HZ := Lib.hid (pasZeros n)
  have HR := Lib.hid hr
  have hbl := lt_of_cell ht
  have START : n = 0 ∨ 0 < n := by omega
  rcases START with rfl | hpos
  · go_enter Try.func66, Try.ntmps66
    go_wp2_with (at_make; refine wpList_make_full _ rfl _ _ 30 rfl w.heap.size 35 i0 (.agg #[.int .i64 0, .int .i64 0, .int .i64 0, .int .i64 0]) 4 Try.underlying30 hi hz0 hz1 _ _ _ _ 0 rfl rfl (by omega) (by omega) (by rw [hz2]; omega) (by unfold maxLen; omega) (Nat.le_refl _) ?_; intro w0 hown0 hgrow0; have hcp := run_copy0 (P := Try.prog) (w := w0) (dT := 30) (sT := 30) (ty := 3) (d := some ⟨w.heap.size, 0, none⟩) (A := A) (dCap := 0) (sCap := c) Try.underlying30 hi)
    have hb0 : Below w.heap.size w w0 := (Below.refl _ _).grown hgrow0 (Nat.le_refl _) (fun k h => by cases h)
    go_loop [15] (fun i => i = .int .i64 0) (fun i => 0)
    case atStart => exact rfl
    case round =>
      obtain rfl := hrel
      go_wp2_with fail
      go_ret
      exact ⟨_, _, rfl, Nat.le_refl _, by unfold maxLen; omega, fun i hi => absurd hi (by omega), hb0⟩
  · go_enter Try.func66, Try.ntmps66
    go_wp2_with (
      at_make
      refine wpList_make_full _ rfl _ _ 30 rfl w.heap.size 35 i0 (.agg #[.int .i64 0, .int .i64 0, .int .i64 0, .int .i64 0]) 4 Try.underlying30 hi hz0 hz1 _ _ _ _ n rfl rfl (by omega) (by omega) (by rw [hz2]; omega) (by unfold maxLen; omega) (Nat.le_refl _) ?_
      intro w0 hown0 hgrow0
      have hb0 : Below w.heap.size w w0 := (Below.refl _ _).grown hgrow0 (Nat.le_refl _) (fun k h => by cases h)
      obtain ⟨b, off, hA, hlt, hc⟩ := rdZ_row (HR.out.kept hb0) (by omega) hpos
      have hcp' := run_copyM (P := Try.prog) (sT := 30) (ty := 3) (sCap := c) (a := ⟨b, off, none⟩) (cs := rowM 4 z n) Try.underlying30 hi hz1 hown0 (rowM_len _ _ _) (row_src (by omega) hc) row_one hb0 (Nat.le_refl _)
      rw [← hA] at hcp'
      obtain ⟨w1, hcp, hown1, hb1⟩ := hcp'
      clear hc hown0 hgrow0 hb0 hA
    )
    have HO := Lib.hid (show w1.ownsRow w.heap.size 35 4 (.slice (some ⟨w.heap.size, 0, none⟩) n n) n (rowM 4 (mixP (laterP z t) z 0) n) from by rw [rowM_congr (b := z) (fun i j _ _ => mixP_ge (Nat.zero_le i))]; exact hown1)
    have HB := Lib.hid hb1
    clear hown1 hb1 HR
    go_wp2_with fail
    go_loopg [15] n (fun gh i wr => ∃ k : Nat, k ≤ n ∧ gh = n - k ∧ i = .int .i64 k ∧ Hid (wr.ownsRow w.heap.size 35 4 (.slice (some ⟨w.heap.size, 0, none⟩) n n) n (rowM 4 (mixP (laterP z t) z k) n)) ∧ Hid (Below w.heap.size w wr))
    case atStart => exact ⟨0, by omega, rfl, rfl, HO, HB⟩
    case round =>
      clear HO HB
      obtain ⟨k, hk, rfl, rfl, HO, HB⟩ := hrel
      by_cases h : k < n
      · have hkI : (k : Int) < n := by omega
        have c1 := ownM_at HO.out h (show 1 < 4 by omega)
        rw [mixP_ge (Nat.le_refl k)] at c1
        have bb := hbd k 1 h (by omega)
        have CC := Lib.hid (later1 w.heap.size (k * 4) bt (z k 1) t (z k 1 + t) wr c1 (HO.out.frozenAt _) ((HB.out.cell (p := ⟨bt, 0, none⟩) hbl).trans ht) (IntWalk.i64_in _ (by omega)))
        clear c1 bb
        have HO2 := Lib.hid (show (wr.setCell ⟨w.heap.size, k * 4 + 1, none⟩ (.int .i64 (z k 1 + t))).drew.ownsRow w.heap.size 35 4 (.slice (some ⟨w.heap.size, 0, none⟩) n n) n (rowM 4 (mixP (laterP z t) z (k + 1)) n) from by
          have h1 := ownM_put (i := k) HO.out (show 1 < 4 by omega) (z k 1 + t)
          rw [rowM_congr (b := mixP (laterP z t) z (k + 1)) (fun i j hi hj => ?_)] at h1
          · exact h1
          · rcases Nat.lt_trichotomy i k with c | c | c
            · rw [if_neg (by omega), mixP_lt c, mixP_lt (by omega)]
            · subst c
              rw [mixP_lt (by omega : i < i + 1), mixP_ge (Nat.le_refl i)]
              unfold laterP
              by_cases c : j = 1
              · rw [if_pos ⟨rfl, c⟩, if_pos c]
              · rw [if_neg (by omega), if_neg c]
            · rw [if_neg (by omega), mixP_ge (by omega), mixP_ge (by omega)])
        have HB2 := Lib.hid ((HB.out.setCell (p := ⟨w.heap.size, k * 4 + 1, none⟩) (Nat.le_refl _) (.int .i64 (z k 1 + t))).drew)
        clear HO HB
        go_wp2_with (go_at_call 67; refine CC.out.mono ?_; rintro e w2 ⟨rfl, rfl⟩)
        go_roundg (n - (k + 1))
        case measure => omega
        case rel => exact ⟨k + 1, by omega, rfl, by go_num, HO2, HB2⟩
      · obtain rfl : k = n := by omega
        have E : rowM 4 (mixP (laterP z t) z k) k = rowM 4 (laterP z t) k := rowM_congr fun i j hi hj => mixP_lt hi
        have hO := HO.out
        rw [E] at hO
        obtain ⟨A', c', hv, h1, h2, hR⟩ := ownM_rd hO (by
          intro i j hi hj
          have b1 := hbd i j hi hj
          have b2 := hbd i 1 hi (by omega)
          refine WalkArith.wf_i64 ?_
          unfold laterP
          split <;> omega)
        cases hv
        have HRR := Lib.hid hR
        clear hO E hR
        go_wp2_with fail
        go_ret
        exact ⟨_, _, rfl, h1, h2, HRR.out, HB.out⟩
set_option maxRecDepth 100000 in
set_option maxHeartbeats 4000000 in
theorem changed_mirror (A : Option Addr) (c n : Nat) (z : Nat → Nat → Int) (bt : Nat) (t : Int) (w : World) (hr : RdZ w 4 A n z) (hn : n ≤ 100) (ht : w.cell? ⟨bt, 0, none⟩ = some (.int .i64 t)) (ht1 : -1099511627776 ≤ t) (ht2 : t ≤ 1099511627776) (hbd : ∀ i j, i < n → j < 4 → -1099511627776 ≤ z i j ∧ z i j ≤ 1099511627776) :
    Calls Try.prog 66 #[.slice A n c, .func (.func 68) #[] #[.pointer (some ⟨bt, 0, none⟩)]] w (MadeM 4 n (mirrorP z t) w) := by
  obtain ⟨i0, hi, hz0, hz1, hz2⟩ := info_parts pasInfo
  have HZ := Lib.hid (pasZeros n)
  have HR := Lib.hid hr
  have hbl := lt_of_cell ht
  have START : n = 0 ∨ 0 < n := by omega
  rcases START with rfl | hpos
  · go_enter Try.func66, Try.ntmps66
    go_wp2_with (at_make; refine wpList_make_full _ rfl _ _ 30 rfl w.heap.size 35 i0 (.agg #[.int .i64 0, .int .i64 0, .int .i64 0, .int .i64 0]) 4 Try.underlying30 hi hz0 hz1 _ _ _ _ 0 rfl rfl (by omega) (by omega) (by rw [hz2]; omega) (by unfold maxLen; omega) (Nat.le_refl _) ?_; intro w0 hown0 hgrow0; have hcp := run_copy0 (P := Try.prog) (w := w0) (dT := 30) (sT := 30) (ty := 3) (d := some ⟨w.heap.size, 0, none⟩) (A := A) (dCap := 0) (sCap := c) Try.underlying30 hi)
    have hb0 : Below w.heap.size w w0 := (Below.refl _ _).grown hgrow0 (Nat.le_refl _) (fun k h => by cases h)
    go_loop [15] (fun i => i = .int .i64 0) (fun i => 0)
    case atStart => exact rfl
    case round =>
      obtain rfl := hrel
      go_wp2_with fail
      go_ret
      exact ⟨_, _, rfl, Nat.le_refl _, by unfold maxLen; omega, fun i hi => absurd hi (by omega), hb0⟩
  · go_enter Try.func66, Try.ntmps66
    go_wp2_with (
      at_make
      refine wpList_make_full _ rfl _ _ 30 rfl w.heap.size 35 i0 (.agg #[.int .i64 0, .int .i64 0, .int .i64 0, .int .i64 0]) 4 Try.underlying30 hi hz0 hz1 _ _ _ _ n rfl rfl (by omega) (by omega) (by rw [hz2]; omega) (by unfold maxLen; omega) (Nat.le_refl _) ?_
      intro w0 hown0 hgrow0
      have hb0 : Below w.heap.size w w0 := (Below.refl _ _).grown hgrow0 (Nat.le_refl _) (fun k h => by cases h)
      obtain ⟨b, off, hA, hlt, hc⟩ := rdZ_row (HR.out.kept hb0) (by omega) hpos
      have hcp' := run_copyM (P := Try.prog) (sT := 30) (ty := 3) (sCap := c) (a := ⟨b, off, none⟩) (cs := rowM 4 z n) Try.underlying30 hi hz1 hown0 (rowM_len _ _ _) (row_src (by omega) hc) row_one hb0 (Nat.le_refl _)
      rw [← hA] at hcp'
      obtain ⟨w1, hcp, hown1, hb1⟩ := hcp'
      clear hc hown0 hgrow0 hb0 hA
    )
    have HO := Lib.hid (show w1.ownsRow w.heap.size 35 4 (.slice (some ⟨w.heap.size, 0, none⟩) n n) n (rowM 4 (mixP (mirrorP z t) z 0) n) from by rw [rowM_congr (b := z) (fun i j _ _ => mixP_ge (Nat.zero_le i))]; exact hown1)
    have HB := Lib.hid hb1
    clear hown1 hb1 HR
    go_wp2_with fail
    go_loopg [15] n (fun gh i wr => ∃ k : Nat, k ≤ n ∧ gh = n - k ∧ i = .int .i64 k ∧ Hid (wr.ownsRow w.heap.size 35 4 (.slice (some ⟨w.heap.size, 0, none⟩) n n) n (rowM 4 (mixP (mirrorP z t) z k) n)) ∧ Hid (Below w.heap.size w wr))
    case atStart => exact ⟨0, by omega, rfl, rfl, HO, HB⟩
    case round =>
      clear HO HB
      obtain ⟨k, hk, rfl, rfl, HO, HB⟩ := hrel
      by_cases h : k < n
      · have hkI : (k : Int) < n := by omega
        have c2 := ownM_at HO.out h (show 2 < 4 by omega)
        have c3 := ownM_at HO.out h (show 3 < 4 by omega)
        rw [mixP_ge (Nat.le_refl k)] at c2 c3
        have b2 := hbd k 2 h (by omega)
        have b3 := hbd k 3 h (by omega)
        have CC := Lib.hid (mirror1 w.heap.size (k * 4) bt (z k 2) (z k 3) t (t - 1 - z k 2) (t - 1 - z k 3) (t - 1) wr c2 c3 (HO.out.frozenAt _) (HO.out.frozenAt _) ((HB.out.cell (p := ⟨bt, 0, none⟩) hbl).trans ht) (IntWalk.i64_in _ (by omega)) (IntWalk.i64_in _ (by omega)) (IntWalk.i64_in _ (by omega)))
        clear c2 c3 b2 b3
        have HO2 := Lib.hid (show ((wr.setCell ⟨w.heap.size, k * 4 + 2, none⟩ (.int .i64 (t - 1 - z k 2))).setCell ⟨w.heap.size, k * 4 + 3, none⟩ (.int .i64 (t - 1 - z k 3))).drew.ownsRow w.heap.size 35 4 (.slice (some ⟨w.heap.size, 0, none⟩) n n) n (rowM 4 (mixP (mirrorP z t) z (k + 1)) n) from by
          have h1 := ownM_put (i := k) (ownM_put (i := k) HO.out (show 2 < 4 by omega) (t - 1 - z k 2)) (show 3 < 4 by omega) (t - 1 - z k 3)
          rw [rowM_congr (b := mixP (mirrorP z t) z (k + 1)) (fun i j hi hj => ?_)] at h1
          · exact h1
          · rcases Nat.lt_trichotomy i k with c | c | c
            · rw [if_neg (by omega), if_neg (by omega), mixP_lt c, mixP_lt (by omega)]
            · subst c
              rw [mixP_lt (by omega : i < i + 1), mixP_ge (Nat.le_refl i)]
              unfold mirrorP
              by_cases c3 : j = 3
              · subst c3; simp
              · by_cases c2 : j = 2
                · subst c2; simp
                · simp [c2, c3]
            · rw [if_neg (by omega), if_neg (by omega), mixP_ge (by omega), mixP_ge (by omega)])
        have HB2 := Lib.hid (((HB.out.setCell (p := ⟨w.heap.size, k * 4 + 2, none⟩) (Nat.le_refl _) (.int .i64 (t - 1 - z k 2))).setCell (p := ⟨w.heap.size, k * 4 + 3, none⟩) (Nat.le_refl _) (.int .i64 (t - 1 - z k 3))).drew)
        clear HO HB
        go_wp2_with (go_at_call 68; refine CC.out.mono ?_; rintro e w2 ⟨rfl, rfl⟩)
        go_roundg (n - (k + 1))
        case measure => omega
        case rel => exact ⟨k + 1, by omega, rfl, by go_num, HO2, HB2⟩
      · obtain rfl : k = n := by omega
        have E : rowM 4 (mixP (mirrorP z t) z k) k = rowM 4 (mirrorP z t) k := rowM_congr fun i j hi hj => mixP_lt hi
        have hO := HO.out
        rw [E] at hO
        obtain ⟨A', c', hv, h1, h2, hR⟩ := ownM_rd hO (by
          intro i j hi hj
          have b1 := hbd i j hi hj
          have b2 := hbd i 2 hi (by omega)
          have b3 := hbd i 3 hi (by omega)
          refine WalkArith.wf_i64 ?_
          unfold mirrorP
          split
          · omega
          · split <;> omega)
        cases hv
        have HRR := Lib.hid hR
        clear hO E hR
        go_wp2_with fail
        go_ret
        exact ⟨_, _, rfl, h1, h2, HRR.out, HB.out⟩
set_option maxRecDepth 100000 in
set_option maxHeartbeats 4000000 in
theorem changed_back (A : Option Addr) (c n : Nat) (z : Nat → Nat → Int) (w : World) (hr : RdZ w 4 A n z) (hn : n ≤ 100) :
    Calls Try.prog 66 #[.slice A n c, .func (.func 69) #[] #[]] w (MadeM 4 n (backP z) w) := by
  obtain ⟨i0, hi, hz0, hz1, hz2⟩ := info_parts pasInfo
  have HZ := Lib.hid (pasZeros n)
  have HR := Lib.hid hr
  have START : n = 0 ∨ 0 < n := by omega
  rcases START with rfl | hpos
  · go_enter Try.func66, Try.ntmps66
    go_wp2_with (at_make; refine wpList_make_full _ rfl _ _ 30 rfl w.heap.size 35 i0 (.agg #[.int .i64 0, .int .i64 0, .int .i64 0, .int .i64 0]) 4 Try.underlying30 hi hz0 hz1 _ _ _ _ 0 rfl rfl (by omega) (by omega) (by rw [hz2]; omega) (by unfold maxLen; omega) (Nat.le_refl _) ?_; intro w0 hown0 hgrow0; have hcp := run_copy0 (P := Try.prog) (w := w0) (dT := 30) (sT := 30) (ty := 3) (d := some ⟨w.heap.size, 0, none⟩) (A := A) (dCap := 0) (sCap := c) Try.underlying30 hi)
    have hb0 : Below w.heap.size w w0 := (Below.refl _ _).grown hgrow0 (Nat.le_refl _) (fun k h => by cases h)
    go_loop [15] (fun i => i = .int .i64 0) (fun i => 0)
    case atStart => exact rfl
    case round =>
      obtain rfl := hrel
      go_wp2_with fail
      go_ret
      exact ⟨_, _, rfl, Nat.le_refl _, by unfold maxLen; omega, fun i hi => absurd hi (by omega), hb0⟩
  · go_enter Try.func66, Try.ntmps66
    go_wp2_with (
      at_make
      refine wpList_make_full _ rfl _ _ 30 rfl w.heap.size 35 i0 (.agg #[.int .i64 0, .int .i64 0, .int .i64 0, .int .i64 0]) 4 Try.underlying30 hi hz0 hz1 _ _ _ _ n rfl rfl (by omega) (by omega) (by rw [hz2]; omega) (by unfold maxLen; omega) (Nat.le_refl _) ?_
      intro w0 hown0 hgrow0
      have hb0 : Below w.heap.size w w0 := (Below.refl _ _).grown hgrow0 (Nat.le_refl _) (fun k h => by cases h)
      obtain ⟨b, off, hA, hlt, hc⟩ := rdZ_row (HR.out.kept hb0) (by omega) hpos
      have hcp' := run_copyM (P := Try.prog) (sT := 30) (ty := 3) (sCap := c) (a := ⟨b, off, none⟩) (cs := rowM 4 z n) Try.underlying30 hi hz1 hown0 (rowM_len _ _ _) (row_src (by omega) hc) row_one hb0 (Nat.le_refl _)
      rw [← hA] at hcp'
      obtain ⟨w1, hcp, hown1, hb1⟩ := hcp'
      clear hc hown0 hgrow0 hb0 hA
    )
    have HO := Lib.hid (show w1.ownsRow w.heap.size 35 4 (.slice (some ⟨w.heap.size, 0, none⟩) n n) n (rowM 4 (mixP (backP z) z 0) n) from by rw [rowM_congr (b := z) (fun i j _ _ => mixP_ge (Nat.zero_le i))]; exact hown1)
    have HB := Lib.hid hb1
    clear hown1 hb1 HR
    go_wp2_with fail
    go_loopg [15] n (fun gh i wr => ∃ k : Nat, k ≤ n ∧ gh = n - k ∧ i = .int .i64 k ∧ Hid (wr.ownsRow w.heap.size 35 4 (.slice (some ⟨w.heap.size, 0, none⟩) n n) n (rowM 4 (mixP (backP z) z k) n)) ∧ Hid (Below w.heap.size w wr))
    case atStart => exact ⟨0, by omega, rfl, rfl, HO, HB⟩
    case round =>
      clear HO HB
      obtain ⟨k, hk, rfl, rfl, HO, HB⟩ := hrel
      by_cases h : k < n
      · have hkI : (k : Int) < n := by omega
        have c2 := ownM_at HO.out h (show 2 < 4 by omega)
        have c3 := ownM_at HO.out h (show 3 < 4 by omega)
        rw [mixP_ge (Nat.le_refl k)] at c2 c3
        have CC := Lib.hid (back1 w.heap.size (k * 4) (z k 2) (z k 3) wr c2 c3 (HO.out.frozenAt _) (HO.out.frozenAt _))
        clear c2 c3
        have HO2 := Lib.hid (show ((wr.setCell ⟨w.heap.size, k * 4 + 2, none⟩ (.int .i64 (z k 3))).setCell ⟨w.heap.size, k * 4 + 3, none⟩ (.int .i64 (z k 2))).drew.ownsRow w.heap.size 35 4 (.slice (some ⟨w.heap.size, 0, none⟩) n n) n (rowM 4 (mixP (backP z) z (k + 1)) n) from by
          have h1 := ownM_put (i := k) (ownM_put (i := k) HO.out (show 2 < 4 by omega) (z k 3)) (show 3 < 4 by omega) (z k 2)
          rw [rowM_congr (b := mixP (backP z) z (k + 1)) (fun i j hi hj => ?_)] at h1
          · exact h1
          · rcases Nat.lt_trichotomy i k with c | c | c
            · rw [if_neg (by omega), if_neg (by omega), mixP_lt c, mixP_lt (by omega)]
            · subst c
              rw [mixP_lt (by omega : i < i + 1), mixP_ge (Nat.le_refl i)]
              unfold backP
              by_cases c3 : j = 3
              · subst c3; simp
              · by_cases c2 : j = 2
                · subst c2; simp
                · simp [c2, c3]
            · rw [if_neg (by omega), if_neg (by omega), mixP_ge (by omega), mixP_ge (by omega)])
        have HB2 := Lib.hid (((HB.out.setCell (p := ⟨w.heap.size, k * 4 + 2, none⟩) (Nat.le_refl _) (.int .i64 (z k 3))).setCell (p := ⟨w.heap.size, k * 4 + 3, none⟩) (Nat.le_refl _) (.int .i64 (z k 2))).drew)
        clear HO HB
        go_wp2_with (go_at_call 69; refine CC.out.mono ?_; rintro e w2 ⟨rfl, rfl⟩)
        go_roundg (n - (k + 1))
        case measure => omega
        case rel => exact ⟨k + 1, by omega, rfl, by go_num, HO2, HB2⟩
      · obtain rfl : k = n := by omega
        have E : rowM 4 (mixP (backP z) z k) k = rowM 4 (backP z) k := rowM_congr fun i j hi hj => mixP_lt hi
        have hO := HO.out
        rw [E] at hO
        obtain ⟨A', c', hv, h1, h2, hR⟩ := ownM_rd hO (by
          intro i j hi hj
          unfold backP
          split
          · obtain ⟨_, _, _, q⟩ := hr i hi; exact (q 3 (by omega)).2
          · split
            · obtain ⟨_, _, _, q⟩ := hr i hi; exact (q 2 (by omega)).2
            · obtain ⟨_, _, _, q⟩ := hr i hi; exact (q j hj).2)
        cases hv
        have HRR := Lib.hid hR
        clear hO E hR
        go_wp2_with fail
        go_ret
        exact ⟨_, _, rfl, h1, h2, HRR.out, HB.out⟩
set_option maxHeartbeats 1000000 in
theorem later_any (A : Option Addr) (c n : Nat) (z : Nat → Nat → Int) (t : Int) (w : World) (hr : RdZ w 4 A n z) (hn : n ≤ 100) (ht1 : -1099511627776 ≤ t) (ht2 : t ≤ 1099511627776) (hbd : ∀ i j, i < n → j < 4 → -1099511627776 ≤ z i j ∧ z i j ≤ 1099511627776) :
    Calls Try.prog 20 #[.slice A n c, .int .i64 t] w (MadeM 4 n (laterP z t) w) := by
  have hb0 : Below w.heap.size w (w.alloc (.cells #[.int .i64 t] 3)) := (Below.refl _ _).alloc (Nat.le_refl _) _
  have C := Lib.hid (changed_later A c n z w.heap.size t (w.alloc (.cells #[.int .i64 t] 3)) (hr.kept hb0) hn (World.cell?_alloc_mark w _ _ _ 0) ht1 ht2 hbd)
  have HB := Lib.hid hb0
  clear hb0
  go_enter Try.func20, Try.ntmps20
  go_wp2_with fail
  refine C.out.mono ?_
  rintro e w1 ⟨A', c', rfl, h1, h2, hR, hb⟩
  have HR := Lib.hid hR
  have HB1 := Lib.hid hb
  clear hR hb
  go_wp2_with fail
  go_ret
  exact ⟨_, _, rfl, h1, h2, HR.out, HB.out.trans (HB1.out.mono HB.out.size)⟩
set_option maxHeartbeats 1000000 in
theorem mirror_any (A : Option Addr) (c n : Nat) (z : Nat → Nat → Int) (t : Int) (w : World) (hr : RdZ w 4 A n z) (hn : n ≤ 100) (ht1 : -1099511627776 ≤ t) (ht2 : t ≤ 1099511627776) (hbd : ∀ i j, i < n → j < 4 → -1099511627776 ≤ z i j ∧ z i j ≤ 1099511627776) :
    Calls Try.prog 21 #[.slice A n c, .int .i64 t] w (MadeM 4 n (mirrorP z t) w) := by
  have hb0 : Below w.heap.size w (w.alloc (.cells #[.int .i64 t] 3)) := (Below.refl _ _).alloc (Nat.le_refl _) _
  have C := Lib.hid (changed_mirror A c n z w.heap.size t (w.alloc (.cells #[.int .i64 t] 3)) (hr.kept hb0) hn (World.cell?_alloc_mark w _ _ _ 0) ht1 ht2 hbd)
  have HB := Lib.hid hb0
  clear hb0
  go_enter Try.func21, Try.ntmps21
  go_wp2_with fail
  refine C.out.mono ?_
  rintro e w1 ⟨A', c', rfl, h1, h2, hR, hb⟩
  have HR := Lib.hid hR
  have HB1 := Lib.hid hb
  clear hR hb
  go_wp2_with fail
  go_ret
  exact ⟨_, _, rfl, h1, h2, HR.out, HB.out.trans (HB1.out.mono HB.out.size)⟩
set_option maxHeartbeats 1000000 in
theorem back_any (A : Option Addr) (c n : Nat) (z : Nat → Nat → Int) (w : World) (hr : RdZ w 4 A n z) (hn : n ≤ 100) :
    Calls Try.prog 22 #[.slice A n c] w (MadeM 4 n (backP z) w) := by
  have C := Lib.hid (changed_back A c n z w hr hn)
  go_enter Try.func22, Try.ntmps22
  go_wp2_with fail
  refine C.out.mono ?_
  rintro e w1 ⟨A', c', rfl, h1, h2, hR, hb⟩
  have HR := Lib.hid hR
  have HB1 := Lib.hid hb
  clear hR hb
  go_wp2_with fail
  go_ret
  exact ⟨_, _, rfl, h1, h2, HR.out, HB1.out⟩
end Go.Proofs.Yteebeiflipfbkaa
