/- Contracts of windows.span and windows.All. -/
import Derived.Test.YtffcmfpadaebdabRows
import Derived.Test.YtffcmfpadaebdabRowKit
import Derived.Test.YtffcmfpadaebdabRowS
import Derived.Test.YtffcmfpadaebdabRowZ
import Derived.Test.YtffcmfpadaebdabSlicesEq
import Derived.Test.YtffcmfpadaebdabRowL
import Derived.Test.YtffcmfpadaebdabRowM
import Derived.Test.YtffcmfpadaebdabBlocks
import Derived.Test.YtffcmfpadaebdabWinMath
import Derived.Test.YtffcmfpadaebdabSlicesEqM
import Derived.Test.YtffcmfpadaebdabMakeI
import Derived.Test.YtffcmfpadaebdabPulseMath
import Derived.Test.YtffcmfpadaebdabPulseA
import Derived.Test.YtffcmfpadaebdabWindowsA
import Derived.WalkKit
import Derived.IntWalk
import Derived.Lib.Hide
import Derived.Lib.SmallJoins
import Derived.WalkSpells
import Derived.WalkLawsBesides
import Derived.Laws.CopyOwn
import Derived.Laws.MakeOwn
import Derived.Laws.OwnMore
import Derived.OwnWalk
import Derived.Deep.QuietTactic
import Derived.Deep.RegionHeld3
import Derived.Deep.LoopGhost
import Derived.BigQuiet
import Derived.BigRegion
namespace Go.Proofs.Ytffcmfpadaebdab
open Go.RowKit
set_option linter.unusedSimpArgs false
set_option linter.unusedVariables false
set_option maxRecDepth 100000 in
set_option maxHeartbeats 1000000 in
theorem span_any (i W H m : Int) (w : World) (hm : i * W = m) (h0 : 0 ≤ m) (h1 : m < H) (hW : 1 ≤ W) (hW' : W ≤ 9223372036854775807) (hH : H ≤ 9223372036854775807) :
    Calls Try.prog 15 #[.int .i64 i, .int .i64 W, .int .i64 H] w fun e w' => e = .returned (.agg #[.int .i64 m, .int .i64 (m + min W (H - m))]) ∧ Below w.heap.size w w' := by
  have hw : IntKind.i64.wrap (i * W) = m := by rw [hm]; exact IntWalk.i64_in _ (by omega)
  have hd : IntKind.i64.wrap (H - m) = H - m := IntWalk.i64_in _ (by omega)
  have MN := fun ts t X => run_min2W (P := Try.prog) ts t W (H - m) X
  obtain ⟨d, hde⟩ : ∃ d, min W (H - m) = d := ⟨_, rfl⟩
  have d0 : 0 ≤ d := by omega
  have d1 : d ≤ H - m := by omega
  rw [hde] at MN ⊢
  have hs : IntKind.i64.wrap (m + d) = m + d := IntWalk.i64_in _ (by omega)
  clear hm hde
  go_enter Try.func15, Try.ntmps15
  go_wp2_with fail
  refine bodyPost_ret (v := .agg #[.int .i64 m, .int .i64 (m + d)]) (by simp [results, Try.results15, go_sem]) rfl ⟨rfl, ?_⟩
  exact (Below.refl _ _).alloc (Nat.le_refl _) _
theorem many_eq {W H : Int} {N : Nat} (hW : 1 ≤ W) (hH : 0 ≤ H) (hN : manyP W H = N) : (H % W = 0 ∧ (N : Int) = H / W) ∨ (0 < H % W ∧ (N : Int) = H / W + 1) := by
  have h0 : 0 ≤ H / W := Int.ediv_nonneg hH (by omega)
  have h1 : 0 ≤ H % W := Int.emod_nonneg _ (by omega)
  unfold manyP at hN
  by_cases h : H % W = 0
  · rw [if_pos h] at hN; left; omega
  · rw [if_neg h] at hN; right; omega
theorem many_le {W H : Int} {N : Nat} (hW : 1 ≤ W) (hH : 0 ≤ H) (hN : manyP W H = N) : H ≤ N * W := by
  have e := Int.mul_ediv_add_emod H W
  have r1 : H % W < W := Int.emod_lt_of_pos _ (by omega)
  rw [Int.mul_comm] at e
  rcases many_eq hW hH hN with ⟨a, b⟩ | ⟨a, b⟩
  · rw [b]; omega
  · rw [b, Int.add_mul]; omega
theorem many_lt {W H : Int} {N i : Nat} (hW : 1 ≤ W) (hH : 0 ≤ H) (hN : manyP W H = N) (hi : i < N) : (i : Int) * W < H := by
  have e := Int.mul_ediv_add_emod H W
  rw [Int.mul_comm] at e
  rcases many_eq hW hH hN with ⟨a, b⟩ | ⟨a, b⟩
  · have := Int.mul_le_mul_of_nonneg_right (show (i : Int) + 1 ≤ H / W by omega) (show 0 ≤ W by omega)
    rw [Int.add_mul] at this; omega
  · have := Int.mul_le_mul_of_nonneg_right (show (i : Int) ≤ H / W by omega) (show 0 ≤ W by omega)
    omega
theorem rowsV_sm {W H : Int} {N n : Nat} {z : Nat → Nat → Int} (hz : ∀ i, i < n → (-1 ≤ z i 1 ∧ z i 1 ≤ 1073741824) ∧ (-1 ≤ z i 5 ∧ z i 5 ≤ 1073741824) ∧ (-1 ≤ z i 6 ∧ z i 6 ≤ 1073741824)) : ∀ k, k ≤ n → SmallM ((k : Int) * 4294967296) (rowsV W H N z k)
  | 0, _ => fun i j => by show -(0 * 4294967296) ≤ (0 : Int) ∧ (0 : Int) ≤ 0 * 4294967296; omega
  | k + 1, hk => by
    have h := hz k (by omega)
    have := stpV_sm (W := W) (H := H) (N := N) (a := z k 1) (b := z k 5) (c := z k 6) (rowsV_sm (W := W) (H := H) (N := N) hz k (by omega)) (by omega) (by omega)
    exact sm_more this (by omega)
theorem col_sm {M : Int} {f : Nat → Nat → Int} (h : SmallM M f) (h0 : 0 ≤ M) (j : Nat) : ∀ n : Nat, -((n : Int) * M) ≤ colV f j n ∧ colV f j n ≤ n * M
  | 0 => by show -(0 * M) ≤ (0 : Int) ∧ (0 : Int) ≤ 0 * M; omega
  | n + 1 => by
    have i := col_sm h h0 j n
    have b := h n j
    show _ ≤ colV f j n + f n j ∧ colV f j n + f n j ≤ _
    rw [show ((n + 1 : Nat) : Int) * M = n * M + M by rw [Int.natCast_add, Int.add_mul]; omega]
    omega
/-- a window's numbers -/
def winF (R : Nat → Nat → Int) (W H : Int) (a b : Nat) : Int := if b = 0 then a * W else if b = 1 then toV W H a else if b = 6 then colV R 6 (a + 1) else R a b
def finV (R : Nat → Nat → Int) (W H : Int) (k a b : Nat) : Int := if a < k then winF R W H a b else R a b
theorem fin_step {R : Nat → Nat → Int} {W H : Int} {k a b : Nat} : putV (putV (putV (finV R W H k) k 6 (colV R 6 (k + 1))) k 0 ((k : Int) * W)) k 1 ((k : Int) * W + min W (H - k * W)) a b = finV R W H (k + 1) a b := by
  by_cases h : a = k
  · subst h
    unfold putV finV
    rw [if_pos (show a < a + 1 by omega), if_neg (show ¬ a < a by omega)]
    unfold winF toV
    by_cases h1 : b = 1
    · subst h1; simp
    · by_cases h0 : b = 0
      · subst h0; simp
      · by_cases h6 : b = 6
        · subst h6; simp
        · simp [h0, h1, h6]
  · rw [putV_other (by omega), putV_other (by omega), putV_other (by omega)]
    unfold finV
    by_cases h2 : a < k
    · rw [if_pos h2, if_pos (by omega)]
    · rw [if_neg h2, if_neg (by omega)]
theorem rowInfo : (Try.prog.info? 28).map (fun i => (i.zero, i.size, i.bytes)) = some (some (.agg #[.int .i64 0, .int .i64 0, .int .i64 0, .int .i64 0, .int .i64 0, .int .i64 0, .int .i64 0]), 7, 56) := by kernel_rfl
theorem rowZeros (n : Nat) : (madeCells (Value.cells (.agg #[.int .i64 0, .int .i64 0, .int .i64 0, .int .i64 0, .int .i64 0, .int .i64 0, .int .i64 0])) (n * 7)).toList = rowM 7 (fun _ _ => 0) n := madeM rfl (by intro j hj; rcases j with _ | _ | _ | _ | _ | _ | _ | j <;> first | rfl | omega)
/-- windows, and no error -/
def AllR (N : Nat) (y : Nat → Nat → Int) (w : World) (e : Ending) (w' : World) : Prop := ∃ A c', e = .returned (.tuple #[.slice A N c', .int .i64 0]) ∧ N ≤ c' ∧ RdZ w' 7 A N y ∧ Below w.heap.size w w'
/-- the bounds of trips -/
def TripB (z : Nat → Nat → Int) (n : Nat) : Prop := ∀ i, i < n → (-1 ≤ z i 1 ∧ z i 1 ≤ 1073741824) ∧ (-1 ≤ z i 5 ∧ z i 5 ≤ 1073741824) ∧ (-1 ≤ z i 6 ∧ z i 6 ≤ 1073741824)
theorem winF_wf {W H : Int} {N n : Nat} {z : Nat → Nat → Int} (hz : TripB z n) (hn : n ≤ 100) (hW : 1 ≤ W) (hH : 0 ≤ H) (hH' : H ≤ 9223372036854775807) (hN : manyP W H = N) (hN' : N ≤ 65536) {a b : Nat} (ha : a < N) : (Lit.int .i64 (winF (rowsV W H N z n) W H a b)).wf = true := by
  have s := rowsV_sm (W := W) (H := H) (N := N) hz n (Nat.le_refl n)
  have s1 := sm_more s (show (n : Int) * 4294967296 ≤ 1099511627776 by omega)
  have c := col_sm s1 (by omega) 6 (a + 1)
  have hF := many_lt hW hH hN ha
  have hp := to_pos hW hF
  have h0 := mul_nn a hW
  refine WalkArith.wf_i64 ?_
  unfold winF
  split
  · omega
  · split
    · omega
    · split
      · omega
      · have := s1 a b; omega
set_option maxRecDepth 100000 in
set_option maxHeartbeats 8000000 in
theorem all_any (A : Option Addr) (c n : Nat) (z : Nat → Nat → Int) (W H : Int) (N : Nat) (w : World) (hr : RdZ w 7 A n z) (hn : n ≤ 100) (hW : 1 ≤ W) (hW' : W ≤ 9223372036854775807) (hH : 0 ≤ H) (hH' : H ≤ 9223372036854775807) (hN : manyP W H = N) (hN' : N ≤ 65536) (hz : TripB z n) :
    Calls Try.prog 7 #[.slice A n c, .int .i64 W, .int .i64 H] w (AllR N (winF (rowsV W H N z n) W H) w) := by
  obtain ⟨i0, hi, hz0, hz1, hz2⟩ := info_parts rowInfo
  have HZ := Lib.hid (rowZeros (N + 1))
  have HR := Lib.hid hr
  have PC := Lib.hid (show Calls Try.prog 13 #[.slice none 0 0, .int .i64 W, .int .i64 H] w (MadeR N (rowL (pcnt W H [] 0) N) w) from pcount_ok none 0 [] W H N w hW hH hH' hN hN' (rdI_none rfl) (by simp))
  have WF := Lib.hid (fun a b (ha : a < N) => winF_wf (b := b) hz hn hW hH hH' hN hN' ha)
  have NW := Lib.hid (many_le hW hH hN)
  have LT := Lib.hid (fun i (hi : i < N) => many_lt hW hH hN hi)
  have SM := Lib.hid (fun k hk => sm_more (rowsV_sm (W := W) (H := H) (N := N) hz k hk) (show (k : Int) * 4294967296 ≤ 1099511627776 by omega))
  have HTB := Lib.hid hz
  clear hr hN hz
  go_enter Try.func7, Try.ntmps7
  go_wp2_with fail
  refine PC.out.mono ?_
  rintro e V ⟨A1, c1, rfl, _, hb1⟩
  have HB1 := Lib.hid hb1
  clear hb1 PC
  go_wp2_with (at_make; refine wpList_make_full _ rfl _ _ 30 rfl V.heap.size 28 i0 (.agg #[.int .i64 0, .int .i64 0, .int .i64 0, .int .i64 0, .int .i64 0, .int .i64 0, .int .i64 0]) 7 Try.underlying30 hi hz0 hz1 _ _ _ _ (N + 1) rfl rfl (by omega) (by omega) (by rw [hz2]; omega) (by unfold maxLen; omega) (Nat.le_refl _) ?_; intro w2 hown0 hgrow0)
  rw [HZ.out] at hown0
  have hb0 : Below V.heap.size V w2 := (Below.refl _ _).grown hgrow0 (Nat.le_refl _) (fun k h => by cases h)
  have HO := Lib.hid (show w2.ownsRow V.heap.size 28 7 (.slice (some ⟨V.heap.size, 0, none⟩) (N + 1) (N + 1)) (N + 1) (rowM 7 (rowsV W H N z 0) (N + 1)) from hown0)
  have HB := Lib.hid hb0
  clear hgrow0 hown0 hb0 HZ
  go_wp2_with fail
  go_loopg [32] n (fun gh i wr => ∃ k : Nat, k ≤ n ∧ gh = n - k ∧ i = .int .i64 k ∧ Hid (wr.ownsRow V.heap.size 28 7 (.slice (some ⟨V.heap.size, 0, none⟩) (N + 1) (N + 1)) (N + 1) (rowM 7 (rowsV W H N z k) (N + 1))) ∧ Hid (Below V.heap.size V wr))
  case atStart => exact ⟨0, by omega, rfl, rfl, HO, HB⟩
  case round =>
    clear HO HB
    obtain ⟨k, hk, rfl, rfl, HO, HB⟩ := hrel
    by_cases h : k < n
    · obtain ⟨b, off, rfl, hlt, hc⟩ := rdZ_row (HR.out.kept (HB1.out.trans (HB.out.mono HB1.out.size))) (by omega) (by omega)
      have c0 : wr.cell? ⟨b, off + k * 7, none⟩ = _ := hc k 0 h (by omega)
      have c1 := hc k 1 h (by omega)
      have c2 := hc k 2 h (by omega)
      have c3 := hc k 3 h (by omega)
      have c4 := hc k 4 h (by omega)
      have c5 := hc k 5 h (by omega)
      have c6 := hc k 6 h (by omega)
      have tb := HTB.out k h
      have CC := Lib.hid (count_any V.heap.size V.heap.size N (N + 1) (rowsV W H N z k) (z k 0) (z k 1) (z k 2) (z k 3) (z k 4) (z k 5) (z k 6) W H V (wr.alloc (.cells #[.int .i64 (z k 0), .int .i64 (z k 1), .int .i64 (z k 2), .int .i64 (z k 3), .int .i64 (z k 4), .int .i64 (z k 5), .int .i64 (z k 6)] 38)) (by omega) (HO.out.alloc _) (HB.out.alloc HB.out.size _) hW NW.out hN' (SM.out k (by omega)) tb.1 tb.2.1 tb.2.2)
      clear hc tb
      go_wp2_with fail
      refine CC.out.mono ?_
      rintro e w3 ⟨rfl, hown, hb⟩
      have HO2 := Lib.hid (show w3.ownsRow V.heap.size 28 7 (.slice (some ⟨V.heap.size, 0, none⟩) (N + 1) (N + 1)) (N + 1) (rowM 7 (rowsV W H N z (k + 1)) (N + 1)) from hown)
      have HB2 := Lib.hid hb
      clear hown hb HO HB CC
      go_wp2_with fail
      go_roundg (n - (k + 1))
      case measure => omega
      case rel => exact ⟨k + 1, by omega, rfl, by go_num, HO2, HB2⟩
    · obtain rfl : k = n := by omega
      have S0 := Lib.hid (SM.out k (Nat.le_refl k))
      obtain ⟨R, hR⟩ : ∃ R, rowsV W H N z k = R := ⟨_, rfl⟩
      rw [hR] at HO S0 WF ⊢
      have HO := Lib.hid (show wr.ownsRow V.heap.size 28 7 (.slice (some ⟨V.heap.size, 0, none⟩) (N + 1) (N + 1)) (N + 1) (rowM 7 (finV R W H 0) (N + 1)) from by
        rw [rowM_congr (b := R) (fun i j _ _ => by unfold finV; rw [if_neg (by omega)])]; exact HO.out)
      have C0 := Lib.hid (fun m => col_sm S0.out (by omega) 6 m)
      have HRq := Lib.hid hR
      clear hR SM HR
      rename World => wq
      go_wp2_with fail
      go_loopg [14, 43] N (fun gh v i wr => ∃ j : Nat, j ≤ N ∧ gh = N - j ∧ i = .int .i64 j ∧ v = .int .i64 (colV R 6 j) ∧ Hid (wr.ownsRow V.heap.size 28 7 (.slice (some ⟨V.heap.size, 0, none⟩) (N + 1) (N + 1)) (N + 1) (rowM 7 (finV R W H j) (N + 1))) ∧ Hid (Below V.heap.size V wr))
      case atStart => exact ⟨0, by omega, rfl, rfl, rfl, HO, HB⟩
      case round =>
        clear HO HB
        obtain ⟨j, hj, rfl, rfl, rfl, HO, HB⟩ := hrel
        by_cases hjN : j < N
        · have jI : (j : Int) < (N : Int) + 1 := by omega
          have jI2 : (j : Int) < N := by omega
          have c6 := ownM_at HO.out (show j < N + 1 by omega) (show 6 < 7 by omega)
          have f6 := HO.out.frozenAt (j * 7 + 6)
          have e6 : finV R W H j j 6 = R j 6 := by unfold finV; rw [if_neg (by omega)]
          rw [e6] at c6
          have b6 := S0.out j 6
          have bj := C0.out j
          have EC : Hid (colV R 6 (j + 1) = colV R 6 j + R j 6) := Lib.hid rfl
          have O1 := own_putV (p := j) (u := colV R 6 (j + 1)) HO.out (show 6 < 7 by omega)
          rw [EC.out] at O1
          obtain ⟨x, hx⟩ : ∃ x, R j 6 = x := ⟨_, rfl⟩
          rw [hx] at c6 b6 EC O1
          obtain ⟨m, hm⟩ : ∃ m, (j : Int) * W = m := ⟨_, rfl⟩
          have lt := LT.out j hjN
          have nn := mul_nn j hW
          rw [hm] at lt nn
          have SP := Lib.hid (fun X => span_any j W H m X hm nn lt hW hW' hH')
          have O1h := Lib.hid O1
          have B1h := Lib.hid (HB.out.setCell (p := ⟨V.heap.size, j * 7 + 6, none⟩) (Nat.le_refl _) (.int .i64 (colV R 6 j + x)))
          have hmh := Lib.hid hm
          clear e6 O1 hx hm lt nn HO HB
          go_wp2_with fail
          refine (SP.out _).mono ?_
          rintro e w4 ⟨rfl, hb4⟩
          have O2 := ownM_below O1h.out hb4
          have d0 : w4.cell? ⟨V.heap.size, j * 7, none⟩ = some (.int .i64 _) := ownM_at O2 (show j < N + 1 by omega) (show 0 < 7 by omega)
          have d1 := ownM_at O2 (show j < N + 1 by omega) (show 1 < 7 by omega)
          have g0 := O2.frozenAt (j * 7)
          have g1 := O2.frozenAt (j * 7 + 1)
          have O3 := own_putV (p := j) (j := 0) (u := m) O2 (by omega)
          have O4 := own_putV (p := j) (j := 1) (u := m + min W (H - m)) O3 (by omega)
          have B2 := B1h.out.trans (hb4.mono B1h.out.size)
          have B4 := Lib.hid ((B2.setCell (p := ⟨V.heap.size, j * 7, none⟩) (Nat.le_refl _) (.int .i64 m)).setCell (p := ⟨V.heap.size, j * 7 + 1, none⟩) (Nat.le_refl _) (.int .i64 (m + min W (H - m))))
          have O5 := Lib.hid (show ((w4.setCell ⟨V.heap.size, j * 7, none⟩ (.int .i64 m)).setCell ⟨V.heap.size, j * 7 + 1, none⟩ (.int .i64 (m + min W (H - m)))).ownsRow V.heap.size 28 7 (.slice (some ⟨V.heap.size, 0, none⟩) (N + 1) (N + 1)) (N + 1) (rowM 7 (finV R W H (j + 1)) (N + 1)) from by
            rw [← EC.out, ← hmh.out] at O4
            rw [← hmh.out]
            rw [rowM_congr (fun a b _ _ => (fin_step (R := R) (W := W) (H := H) (k := j)).symm)]
            exact O4)
          obtain ⟨T, hT⟩ : ∃ T, m + min W (H - m) = T := ⟨_, rfl⟩
          rw [hT] at O5 B4 ⊢
          obtain ⟨y0, hy0⟩ : ∃ y, w4.cell? ⟨V.heap.size, j * 7, none⟩ = some y := ⟨_, d0⟩
          clear O1h B1h O2 O3 O4 B2 hb4 SP hT d0
          have ECC := Lib.hid EC.out
          go_wp2_with fail
          go_roundg (N - (j + 1))
          case measure => omega
          case rel => exact ⟨j + 1, by omega, rfl, by go_num, by rw [ECC.out], O5, B4⟩
        · obtain rfl : j = N := by omega
          have E : rowM 7 (finV R W H j) j = rowM 7 (winF R W H) j := rowM_congr fun i b hi _ => by unfold finV; rw [if_pos hi]
          have RD := Lib.hid (show RdZ wr 7 (some ⟨V.heap.size, 0, none⟩) j (winF R W H) from rdZ_mk (fun i b hi hb => ⟨by
            have := ownM_at HO.out (show i < j + 1 by omega) hb
            have e : finV R W H j i b = winF R W H i b := by unfold finV; rw [if_pos hi]
            rw [e] at this
            rw [Nat.zero_add]; exact this, WF.out i b hi⟩) (HO.out.lt _ rfl).2)
          have BB := Lib.hid (HB1.out.trans (HB.out.mono HB1.out.size))
          have jI : (j : Int) ≤ (j : Int) + 1 := by omega
          clear HO E
          go_wp2_with fail
          go_ret2
          exact ⟨_, _, rfl, by omega, by rw [HRq.out]; exact RD.out, BB.out⟩
end Go.Proofs.Ytffcmfpadaebdab
