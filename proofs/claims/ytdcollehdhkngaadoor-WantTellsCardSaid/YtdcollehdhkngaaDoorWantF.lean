/- The document's Rides, Lands, Of. -/
import Derived.Test.YtdcollehdhkngaaDoorRows
import Derived.Test.YtdcollehdhkngaaDoorRowKit
import Derived.Test.YtdcollehdhkngaaDoorSlicesEq
import Derived.Test.YtdcollehdhkngaaDoorRowL
import Derived.Test.YtdcollehdhkngaaDoorMakeI
import Derived.Test.YtdcollehdhkngaaDoorBlocks
import Derived.Test.YtdcollehdhkngaaDoorBitsMath
import Derived.Test.YtdcollehdhkngaaDoorBitsA2
import Derived.Test.YtdcollehdhkngaaDoorBitsD
import Derived.Test.YtdcollehdhkngaaDoorBitsE
import Derived.Test.YtdcollehdhkngaaDoorBitsH
import Derived.Test.YtdcollehdhkngaaDoorBitsK
import Derived.Test.YtdcollehdhkngaaDoorBitsP
import Derived.Test.YtdcollehdhkngaaDoorBitsS
import Derived.Test.YtdcollehdhkngaaDoorBitsU
import Derived.Test.YtdcollehdhkngaaDoorBitsX
import Derived.Test.YtdcollehdhkngaaDoorWantA
import Derived.Test.YtdcollehdhkngaaDoorWantB
import Derived.Test.YtdcollehdhkngaaDoorWantC
import Derived.Test.YtdcollehdhkngaaDoorBitsG
import Derived.Test.YtdcollehdhkngaaDoorBitsV
import Derived.Test.YtdcollehdhkngaaDoorWantD
import Derived.Test.YtdcollehdhkngaaDoorRowS
import Derived.Test.YtdcollehdhkngaaDoorRowZ
import Derived.Test.YtdcollehdhkngaaDoorCarA
import Derived.Test.YtdcollehdhkngaaDoorCarB
import Derived.Laws.AppendOwnNone
import Derived.WalkKit
import Derived.OwnWalk
import Derived.Laws.MakeOwn
import Derived.Laws.OwnMore
import Derived.Deep.LoopGhost
import Derived.IntWalk
import Derived.Lib.Hide
import Derived.WalkSpells
import Derived.WalkLawsBesides
import Derived.Laws.CopyOwn
import Derived.Deep.QuietTactic
import Derived.Deep.RegionHeld3
import Derived.BigQuiet
import Derived.BigRegion
namespace Go.Proofs.YtdcollehdhkngaaDoor
open Go.RowKit
set_option linter.unusedSimpArgs false
set_option linter.unusedVariables false
theorem below_growW {W W' : World} (h : Below W.heap.size W W') : W.grownBy W' none := ⟨h.os, h.tape, h.output, h.size, fun k hk _ => h.block k hk⟩
set_option maxRecDepth 100000 in
set_option maxHeartbeats 1000000 in
theorem items_own (F : Nat → Bool) (w : World) :
    Calls Tryd.prog 19 #[setV F] w fun e w' => ∃ v B, e = .returned v ∧ w'.ownsRow B 3 1 v (itL F 128).length ((itL F 128).map (Value.int .i64)) ∧ w.heap.size ≤ B ∧ B ≤ w'.heap.size ∧ Below w.heap.size w w' := by
  obtain ⟨i0, hi, hz0, hz1, hz2⟩ := info_parts mkInfo
  have RS := row_set F
  have LEN := Lib.hid (itL_len F)
  have HZ := zc_run
  have HC := zc_cells
  unfold setV at RS ⊢
  obtain ⟨x, hX⟩ : ∃ x, wordX F = x := ⟨_, rfl⟩
  obtain ⟨y, hY⟩ : ∃ y, wordY F = y := ⟨_, rfl⟩
  rw [hX, hY] at RS ⊢
  have RSh := Lib.hid RS
  clear hX hY RS
  go_enter Tryd.func19, Tryd.ntmps19
  go_wp2_with (first
    | (go_at_call 62; refine (RSh.out _).mono ?_; rintro e w2 ⟨rfl, hb2⟩; have B2 := Lib.hid (one_blk hb2).2.2; clear hb2)
    | (refine wpList_store_row rfl 84 (.tmp 3) (.tmp 7) rfl w2.heap.size (rowC F 128) rfl rfl 84 zc (heap_alloc_last _ _) (by rw [rowC_size]; exact info59) (by rw [rowC_size, zsize]) (rowC_all _ _) ?_))
  have HB : Blk ((w2.alloc (.cells zc 84)).setRow w2.heap.size (rowC F 128)) w2.heap.size 84 (rowC F 128) := setRow_heap _ _ _ _ _ _ (heap_alloc_last _ _)
  have BE : Below w.heap.size w ((w2.alloc (.cells zc 84)).setRow w2.heap.size (rowC F 128)) := below_setRow (B2.out.alloc B2.out.size _) B2.out.size _
  obtain ⟨X0, hX0⟩ : ∃ X, (w2.alloc (.cells zc 84)).setRow w2.heap.size (rowC F 128) = X := ⟨_, rfl⟩
  rw [hX0] at HB BE ⊢
  obtain ⟨g, hg⟩ : ∃ g, w2.heap.size = g := ⟨_, rfl⟩
  rw [hg] at HB ⊢
  have HBh := Lib.hid HB
  have BEh := Lib.hid BE
  clear hX0 hg HB BE B2 HZ HC
  go_loopg [4, 5] 128 (fun gh v i wr => ∃ k : Nat, k ≤ 128 ∧ gh = 128 - k ∧ i = .int .i64 k ∧ RIt F k v X0 wr)
  case atStart => exact ⟨0, by omega, rfl, rfl, World.ownsRow_nil _ _ _ _, Below.refl _ _⟩
  case round =>
    obtain ⟨k, hk, rfl, rfl, hown, hb⟩ := hrel
    obtain ⟨vA, vc, hv⟩ := mkSlice hown
    subst hv
    have hm := LEN.out k
    by_cases h : k < 128
    · have S0 := (HBh.out.next hb).cell k
      rw [rowC_get _ _ _ h] at S0
      have hkI : (k : Int) < 128 := by omega
      cases hF : F k
      · have E : Hid (RIt F (k + 1) (.slice vA (itL F k).length vc) X0 wr) := Lib.hid (by unfold RIt; rw [itL_no hF]; exact ⟨hown, hb⟩)
        simp only [hF, Bool.and_false] at S0
        clear hF hown
        go_wp2_with fail
        go_roundg (128 - (k + 1))
        case measure => omega
        case rel => exact ⟨k + 1, by omega, rfl, by go_num, E.out⟩
      · have E : Hid (∀ v' w1, w1.ownsRow X0.heap.size 3 1 v' ((itL F k).length + 1) ((itL F k).map (Value.int .i64) ++ [.int .i64 (k : Int)]) → Below X0.heap.size X0 w1 → RIt F (k + 1) v' X0 w1) := Lib.hid fun v' w1 h1 h2 => by
          unfold RIt; rw [itL_yes hF]
          simp only [List.length_append, List.length_singleton, List.map_append, List.map_cons, List.map_nil]
          exact ⟨h1, h2⟩
        simp only [hF, h, decide_true, Bool.and_true] at S0
        obtain ⟨m, hme⟩ : ∃ m, (itL F k).length = m := ⟨_, rfl⟩
        rw [hme] at hown hm E ⊢
        clear hF hme
        go_wp2_with (at_builtin; refine wpList_append_own _ rfl _ _ 25 rfl X0.heap.size 3 i0 (.int .i64 0) 1 8 Tryd.underlying25 hi hz0 hz1 hz2 rfl (by decide) _ _ _ rfl (hown.alloc _) ⟨_, 0, none⟩ 1 1 [.int .i64 (k : Int)] rfl rfl one_newR (by intro u hu; simp at hu; subst hu; rfl) (by unfold maxLen; omega) (by omega) (by have := hb.size; simp; omega) ?_; intro v' w1 hown' hgrow _)
        have hb1 : Below X0.heap.size X0 w1 := by
          refine (hb.alloc hb.size _).grown hgrow (by have := hb.size; simp; omega) (fun g hg => ?_)
          first | exact ownR_ge hown hg | exact ownR_ge hown hg.symm
        have HR := E.out v' w1 hown' hb1
        clear hown' hgrow E
        go_wp2_with fail
        go_roundg (128 - (k + 1))
        case measure => omega
        case rel => exact ⟨k + 1, by omega, rfl, by go_num, HR⟩
    · obtain rfl : k = 128 := by omega
      have BW := BEh.out.trans (hb.mono BEh.out.size)
      have OW := Lib.hid hown
      have BS := Lib.hid BEh.out.size
      have BT := Lib.hid hb.size
      clear hown
      go_wp2_with fail
      go_ret
      exact ⟨_, X0.heap.size, rfl, OW.out, BS.out, BT.out, BW⟩

/-- where the first k riders want to, in their order -/
def tosL (z : Nat → Nat → Int) : Nat → List Int
  | 0 => []
  | k + 1 => tosL z k ++ [z k 1]
theorem tosL_len (z : Nat → Nat → Int) : ∀ k, (tosL z k).length = k
  | 0 => rfl
  | k + 1 => by show (tosL z k ++ [z k 1]).length = k + 1; rw [List.length_append, tosL_len z k]; rfl
theorem tosL_get (z : Nat → Nat → Int) : ∀ n i, i < n → (tosL z n)[i]? = some (z i 1)
  | 0, i, h => by omega
  | n + 1, i, h => by
    show (tosL z n ++ [z n 1])[i]? = _
    by_cases e : i = n
    · subst e
      rw [List.getElem?_append_right (by rw [tosL_len]; omega), tosL_len, Nat.sub_self]; rfl
    · rw [List.getElem?_append_left (by rw [tosL_len]; omega)]
      exact tosL_get z n i (by omega)
theorem tosL_zat (z : Nat → Nat → Int) {n i : Nat} (h : i < n) : zat (tosL z n) i = z i 1 := by
  have h1 := zat_get (show i < (tosL z n).length by rw [tosL_len]; exact h)
  rw [tosL_get z n i h] at h1
  exact (Option.some.inj h1).symm
theorem tosL_rd (z : Nat → Nat → Int) (n : Nat) : ∀ k, k ≤ n → ofF (tosL z n) k = rdF z k
  | 0, _ => rfl
  | k + 1, h => by
    show withF (ofF (tosL z n) k) (zat (tosL z n) k) = withF (rdF z k) (z k 1)
    rw [tosL_rd z n k (by omega), tosL_zat z (by omega)]
def RTo (z : Nat → Nat → Int) (k : Nat) (v : Value) (X0 wr : World) : Prop := wr.ownsRow X0.heap.size 3 1 v k ((tosL z k).map (Value.int .i64)) ∧ Below X0.heap.size X0 wr
set_option maxRecDepth 100000 in
set_option maxHeartbeats 2000000 in
theorem rrides_any (p d md l : Int) (wa : Bool) (A : Option Addr) (n c : Nat) (z : Nat → Nat → Int) (w : World) (hr : RdZ w 2 A n z) (hl : n ≤ 1000) :
    Calls Tryd.prog 34 #[carV p d md l wa A n c] w fun e w' => ∃ v B, e = .returned v ∧ w'.ownsRow B 3 1 v (itL (rdF z n) 128).length ((itL (rdF z n) 128).map (Value.int .i64)) ∧ w.heap.size ≤ B ∧ B ≤ w'.heap.size ∧ Below w.heap.size w w' := by
  obtain ⟨i0, hi, hz0, hz1, hz2⟩ := info_parts mkInfo
  have HR := Lib.hid hr
  have hnI : (n : Int) ≤ 1000 := by omega
  have RO := fun A c w hr => rof_any A c (tosL z n) w hr (by rw [tosL_len]; omega)
  rw [tosL_len, tosL_rd z n n (Nat.le_refl _)] at RO
  have IO := fun w => items_own (rdF z n) w
  unfold setV at RO IO
  obtain ⟨x, hX⟩ : ∃ x, wordX (rdF z n) = x := ⟨_, rfl⟩
  obtain ⟨y, hY⟩ : ∃ y, wordY (rdF z n) = y := ⟨_, rfl⟩
  simp only [hX, hY] at RO IO
  replace RO := Lib.hid RO
  replace IO := Lib.hid IO
  have WFh : Hid (∀ i, i < (tosL z n).length → (Lit.int .i64 (zat (tosL z n) i)).wf = true) := Lib.hid fun i hi => by
    have hin : i < n := by rwa [tosL_len] at hi
    obtain ⟨a, _, _, hc⟩ := hr i hin
    rw [tosL_zat z hin]
    exact (hc 1 (by omega)).2
  clear hX hY hr
  unfold carV
  go_enter Tryd.func34, Tryd.ntmps34
  go_wp2_with fail
  have A0 := Blk.new w #[(.int .i64 p : Value), .int .i64 d, .int .i64 md, .int .i64 l, .bool wa, .slice A n c] 47
  have BE := (Below.refl w.heap.size w).alloc (Nat.le_refl _) (.cells #[(.int .i64 p : Value), .int .i64 d, .int .i64 md, .int .i64 l, .bool wa, .slice A n c] 47)
  obtain ⟨X0, hX0⟩ : ∃ X, w.alloc (.cells #[(.int .i64 p : Value), .int .i64 d, .int .i64 md, .int .i64 l, .bool wa, .slice A n c] 47) = X := ⟨_, rfl⟩
  rw [hX0] at A0 BE ⊢
  have CB := Lib.hid A0
  have BEh := Lib.hid BE
  clear hX0 A0 BE
  go_loopg [3, 4] n (fun g v i wr => ∃ k : Nat, k ≤ n ∧ g = n - k ∧ i = .int .i64 k ∧ RTo z k v X0 wr)
  case atStart => exact ⟨0, by omega, rfl, rfl, World.ownsRow_nil _ _ _ _, Below.refl _ _⟩
  case round =>
    obtain ⟨k, hk, rfl, rfl, hown, hb⟩ := hrel
    obtain ⟨vA, vc, hv⟩ := mkSlice hown
    subst hv
    have kc : wr.cell? ⟨w.heap.size, 5, none⟩ = some (.slice A n c) := (CB.out.next hb).cell 5
    by_cases h : k < n
    · have E : Hid (∀ v' w1, w1.ownsRow X0.heap.size 3 1 v' (k + 1) ((tosL z k).map (Value.int .i64) ++ [.int .i64 (z k 1)]) → Below X0.heap.size X0 w1 → RTo z (k + 1) v' X0 w1) := Lib.hid fun v' w1 h1 h2 => by
        unfold RTo
        rw [show tosL z (k + 1) = tosL z k ++ [z k 1] from rfl]
        simp only [List.map_append, List.map_cons, List.map_nil]
        exact ⟨h1, h2⟩
      obtain ⟨b, off, rfl, hlt, hc⟩ := rdZ_row (HR.out.kept (BEh.out.trans (hb.mono BEh.out.size))) (by omega) (by omega)
      have ck1 := hc k 1 h (by omega)
      obtain ⟨zz, hz⟩ : ∃ i, z k 1 = i := ⟨_, rfl⟩
      rw [hz] at ck1 E
      have hki : (k : Int) < n := by omega
      clear hc hz
      go_wp2_with (at_builtin; refine wpList_append_own _ rfl _ _ 25 rfl X0.heap.size 3 i0 (.int .i64 0) 1 8 Tryd.underlying25 hi hz0 hz1 hz2 rfl (by decide) _ _ _ rfl (hown.alloc _) ⟨_, 0, none⟩ 1 1 [.int .i64 zz] rfl rfl one_newR (by intro u hu; simp at hu; subst hu; rfl) (by unfold maxLen; omega) (by omega) (by have := hb.size; simp; omega) ?_; intro v' w1 hown' hgrow _)
      have hb1 : Below X0.heap.size X0 w1 := by
        refine (hb.alloc hb.size _).grown hgrow (by have := hb.size; simp; omega) (fun g hg => ?_)
        first | exact ownR_ge hown hg | exact ownR_ge hown hg.symm
      have HRR := E.out v' w1 hown' hb1
      clear hown' hgrow E
      go_wp2_with fail
      go_roundg (n - (k + 1))
      case measure => omega
      case rel => exact ⟨k + 1, by omega, rfl, by go_num, HRR⟩
    · obtain rfl : k = n := by omega
      have hkk : ¬ ((k : Int) < k) := by omega
      obtain ⟨B, cc, hv, hR⟩ := ownR_rd (ys := tosL z k) (by rw [tosL_len]; exact hown) WFh.out
      rw [tosL_len] at hv
      cases hv
      have R1 := Lib.hid hR
      have BW := Lib.hid (BEh.out.trans (hb.mono BEh.out.size))
      clear hown
      go_wp2_with fail
      refine (RO.out _ _ wr R1.out).mono ?_
      rintro e w2 ⟨rfl, hb2⟩
      have B2 := Lib.hid (BW.out.trans (hb2.mono BW.out.size))
      clear hb2
      go_wp2_with fail
      refine (IO.out _).mono ?_
      rintro e w3 ⟨v, B, rfl, how, h1, h2, hb3⟩
      have B3 := Lib.hid (B2.out.trans (hb3.mono B2.out.size))
      have BS := Lib.hid B2.out.size
      have OW := Lib.hid how
      clear how hb3
      go_wp2_with fail
      go_ret
      exact ⟨v, B, rfl, OW.out, Nat.le_trans BS.out h1, h2, B3.out⟩
set_option maxRecDepth 100000 in
set_option maxHeartbeats 1000000 in
theorem rfull_any (p d md l : Int) (wa : Bool) (A : Option Addr) (n c : Nat) (cap : Int) (w : World) :
    Calls Tryd.prog 36 #[carV p d md l wa A n c, .int .i64 cap] w fun e w' => e = .returned (.bool (decide (cap ≤ (n : Int)))) ∧ Below w.heap.size w w' := by
  unfold carV
  go_enter Tryd.func36, Tryd.ntmps36
  go_wp2_with fail
  go_ret
  exact ⟨rfl, (Below.refl w.heap.size w).alloc (Nat.le_refl _) _⟩
set_option maxRecDepth 100000 in
set_option maxHeartbeats 1000000 in
theorem rlands_any (p d md l : Int) (wa : Bool) (A : Option Addr) (n c : Nat) (cap : Int) (G : Nat → Bool) (w : World) :
    Calls Tryd.prog 38 #[carV p d md l wa A n c, .int .i64 cap, setV G] w fun e w' => ∃ v B, e = .returned v ∧ w'.ownsRow B 3 1 v (itL (laF n cap G) 128).length ((itL (laF n cap G) 128).map (Value.int .i64)) ∧ w.heap.size ≤ B ∧ B ≤ w'.heap.size ∧ Below w.heap.size w w' := by
  have FC := Lib.hid fun w => rfull_any p d md l wa A n c cap w
  by_cases h : cap ≤ (n : Int)
  · have e0 : itL (laF n cap G) 128 = [] := by
      rw [itL_skip (laF n cap G) 0 128 (by omega) fun j _ _ => by unfold laF; rw [if_pos h]]; rfl
    rw [e0]
    rw [decide_eq_true h] at FC
    unfold carV at FC ⊢
    unfold setV
    obtain ⟨x, hx⟩ : ∃ x, wordX G = x := ⟨_, rfl⟩
    obtain ⟨y, hy⟩ : ∃ y, wordY G = y := ⟨_, rfl⟩
    rw [hx, hy]
    clear hx hy e0
    go_enter Tryd.func38, Tryd.ntmps38
    go_wp2_with fail
    refine (FC.out _).mono ?_
    rintro e w2 ⟨rfl, hb⟩
    have E2 := Lib.hid ((two_blk hb).2.2.2)
    clear hb
    go_wp2_with fail
    go_ret
    exact ⟨_, w2.heap.size, rfl, World.ownsRow_nil _ _ _ _, E2.out.size, Nat.le_refl _, E2.out⟩
  · have e0 : itL (laF n cap G) 128 = itL G 128 := by congr 1; funext j; unfold laF; rw [if_neg h]
    rw [e0]
    rw [decide_eq_false h] at FC
    have IO := fun w => items_own G w
    unfold carV at FC ⊢
    unfold setV at IO ⊢
    obtain ⟨x, hx⟩ : ∃ x, wordX G = x := ⟨_, rfl⟩
    obtain ⟨y, hy⟩ : ∃ y, wordY G = y := ⟨_, rfl⟩
    simp only [hx, hy] at IO ⊢
    replace IO := Lib.hid IO
    clear hx hy e0
    go_enter Tryd.func38, Tryd.ntmps38
    go_wp2_with fail
    have bG := Blk.new (w.alloc (.cells #[(.int .i64 p : Value), .int .i64 d, .int .i64 md, .int .i64 l, .bool wa, .slice A n c] 47)) #[(.int .u64 x : Value), .int .u64 y] 24
    rw [World.size_alloc] at bG
    refine (FC.out _).mono ?_
    rintro e w2 ⟨rfl, hb⟩
    obtain ⟨g0, g1, _, _⟩ := (bG.next hb).two
    have E2 := Lib.hid ((two_blk hb).2.2.2)
    clear hb bG
    go_wp2_with fail
    refine (IO.out _).mono ?_
    rintro e w3 ⟨v, B, rfl, how, h1, h2, hb3⟩
    have B3 := Lib.hid (E2.out.trans (hb3.mono E2.out.size))
    have BS := Lib.hid E2.out.size
    have OW := Lib.hid how
    clear how hb3
    go_wp2_with fail
    go_ret
    exact ⟨v, B, rfl, OW.out, Nat.le_trans BS.out h1, h2, B3.out⟩
end Go.Proofs.YtdcollehdhkngaaDoor
