/- Zones cut: the program's cut, how it looks for the least weight. -/
import Derived.Test.YtbjcigkakeffmabRows
import Derived.Test.YtbjcigkakeffmabRowKit
import Derived.Test.YtbjcigkakeffmabRowS
import Derived.Test.YtbjcigkakeffmabRowZ
import Derived.Test.YtbjcigkakeffmabSlicesEq
import Derived.Test.YtbjcigkakeffmabSlicesEqM
import Derived.Test.YtbjcigkakeffmabRowL
import Derived.Test.YtbjcigkakeffmabRowM
import Derived.Test.YtbjcigkakeffmabMakeI
import Derived.Test.YtbjcigkakeffmabBlocks
import Derived.Test.YtbjcigkakeffmabZoneMath
import Derived.Test.YtbjcigkakeffmabShelf
import Derived.WalkKit
import Derived.IntWalk
import Derived.Lib.Hide
import Derived.WalkSpells
import Derived.WalkLawsBesides
import Derived.Laws.CopyOwn
import Derived.Laws.MakeOwn
import Derived.Laws.OwnMore
import Derived.OwnWalk
import Derived.Deep.QuietTactic
import Derived.BigQuiet
import Derived.Deep.RegionHeld3
import Derived.Deep.LoopGhost
import Derived.BigRegion
import Derived.Deep.AppendLies
import Derived.Maps.AppendAt
import Derived.Below
import Derived.Test.YtbjcigkakeffmabZoneA
namespace Go.Proofs.Ytbjcigkakeffmab
open Go.RowKit
set_option linter.unusedSimpArgs false
set_option linter.unusedVariables false
/-- the zones that are closed behind so many floors -/
def szA (l : Nat → Int) (M : Int) : Nat → List (Int × Int)
  | 0 => []
  | k + 1 => if M < gsZ l M k + l k then szA l M k ++ [(((gbZ l M k : Nat) : Int), (k : Int))] else szA l M k
theorem sz_yes {l : Nat → Int} {M : Int} {k : Nat} (h : M < gsZ l M k + l k) : szA l M (k + 1) = szA l M k ++ [(((gbZ l M k : Nat) : Int), (k : Int))] := by show (if _ then _ else _) = _; rw [if_pos h]
theorem sz_no {l : Nat → Int} {M : Int} {k : Nat} (h : ¬ M < gsZ l M k + l k) : szA l M (k + 1) = szA l M k := by show (if _ then _ else _) = _; rw [if_neg h]
theorem sz_len (l : Nat → Int) (M : Int) : ∀ k, (szA l M k).length = zcZ l M k
  | 0 => rfl
  | k + 1 => by
    have := sz_len l M k
    rw [zc_succ]
    by_cases h : M < gsZ l M k + l k
    · rw [sz_yes h, if_pos h]; simp [this]
    · rw [sz_no h, if_neg h]; exact this
def cutL (l : Nat → Int) (M : Int) (n : Nat) : List (Int × Int) := szA l M n ++ [(((gbZ l M n : Nat) : Int), (n : Int))]
theorem cut_len (l : Nat → Int) (M : Int) {n : Nat} (h : 0 < n) : (cutL l M n).length = cnZ l M n := by unfold cutL cnZ; rw [List.length_append, sz_len, if_neg (by omega)]; rfl
/-- a row of spans, number by number -/
def zL (L : List (Int × Int)) (i j : Nat) : Int := if j = 0 then (L.getD i (0, 0)).1 else (L.getD i (0, 0)).2
theorem zL_last (L : List (Int × Int)) (a b : Int) : zL (L ++ [(a, b)]) L.length 0 = a ∧ zL (L ++ [(a, b)]) L.length 1 = b := by unfold zL; simp
theorem zL_old (L : List (Int × Int)) (p : Int × Int) {i : Nat} (hi : i < L.length) (j : Nat) : zL (L ++ [p]) i j = zL L i j := by
  unfold zL; rw [List.getD_eq_getElem?_getD, List.getElem?_append_left hi, ← List.getD_eq_getElem?_getD]
theorem zL_push (L : List (Int × Int)) (a b : Int) : rowM 2 (zL L) L.length ++ [.int .i64 a, .int .i64 b] = rowM 2 (zL (L ++ [(a, b)])) (L.length + 1) :=
  rowM_one (fun i j hi hj => (zL_old L (a, b) hi j).symm) (by
    obtain ⟨h0, h1⟩ := zL_last L a b
    show [Value.int .i64 (zL (L ++ [(a, b)]) L.length 0), Value.int .i64 (zL (L ++ [(a, b)]) L.length 1)] = _
    rw [h0, h1])
def ZRow (l : Nat → Int) (M : Int) (k : Nat) (V : Value) (X0 wr : World) : Prop := wr.ownsRow X0.heap.size 31 2 V (szA l M k).length (rowM 2 (zL (szA l M k)) (szA l M k).length) ∧ Below X0.heap.size X0 wr
def CutR (l : Nat → Int) (M : Int) (n : Nat) (w : World) (e : Ending) (w' : World) : Prop := ∃ A' c', e = .returned (.slice A' (cnZ l M n) c') ∧ cnZ l M n ≤ c' ∧ c' ≤ maxLen ∧ RdZ w' 2 A' (cnZ l M n) (zL (cutL l M n)) ∧ Below w.heap.size w w'
theorem cut_wf {l : Nat → Int} {M : Int} {n : Nat} (hn : n ≤ 128) (h0 : 0 < n) : ∀ i j, i < cnZ l M n → j < 2 → (Lit.int .i64 (zL (cutL l M n) i j)).wf = true := fun i j hi hj => by
  have hm : ∀ k, k ≤ n → ∀ p, p ∈ szA l M k → (0 ≤ p.1 ∧ p.1 ≤ 128) ∧ (0 ≤ p.2 ∧ p.2 ≤ 128) := fun k => by
    induction k with
    | zero => intro _ p hp; cases hp
    | succ k ih =>
      intro hk p hp
      by_cases h : M < gsZ l M k + l k
      · rw [sz_yes h, List.mem_append] at hp
        rcases hp with hp | hp
        · exact ih (by omega) p hp
        · simp at hp
          have := (gb_le l M k).1
          subst hp
          exact ⟨⟨by omega, by show ((gbZ l M k : Nat) : Int) ≤ 128; omega⟩, ⟨by omega, by show (k : Int) ≤ 128; omega⟩⟩
      · rw [sz_no h] at hp; exact ih (by omega) p hp
  have hc : ∀ p, p ∈ cutL l M n → (0 ≤ p.1 ∧ p.1 ≤ 128) ∧ (0 ≤ p.2 ∧ p.2 ≤ 128) := fun p hp => by
    unfold cutL at hp
    rw [List.mem_append] at hp
    rcases hp with hp | hp
    · exact hm n (Nat.le_refl _) p hp
    · simp at hp
      have := (gb_le l M n).1
      subst hp
      exact ⟨⟨by omega, by show ((gbZ l M n : Nat) : Int) ≤ 128; omega⟩, ⟨by omega, by show (n : Int) ≤ 128; omega⟩⟩
  rw [← cut_len l M h0] at hi
  have hg : (cutL l M n).getD i (0, 0) ∈ cutL l M n := by
    rw [List.getD_eq_getElem?_getD, List.getElem?_eq_getElem hi]; exact List.getElem_mem hi
  have := hc _ hg
  unfold zL
  split <;> exact WalkArith.wf_i64 (by omega)
theorem spanInfo : (Try.prog.info? 31).map (fun i => (i.zero, i.size, i.bytes)) = some (some (.agg #[.int .i64 0, .int .i64 0]), 2, 16) := by kernel_rfl
set_option maxRecDepth 100000 in
set_option maxHeartbeats 4000000 in
theorem zcut_any (A : Option Addr) (c n : Nat) (zs : List Int) (M : Int) (w : World) (hn : zs.length = n) (h0 : 0 < n) (h1 : n ≤ 128) (hr : RdI w .i64 A zs) (hz : ∀ i, i < n → 0 ≤ zat zs i ∧ zat zs i ≤ M) (M0 : 0 ≤ M) (M1 : M ≤ 268435456) :
    Calls Try.prog 15 #[.slice A n c, .int .i64 M] w (CutR (zat zs) M n w) := by
  obtain ⟨i0, hi, hz0, hz1, hz2⟩ := info_parts spanInfo
  have HW := Lib.hid (cut_wf (l := zat zs) (M := M) h1 h0)
  have HG := Lib.hid (gs_le hz M0)
  have HC := Lib.hid (zc_lt (zat zs) M)
  have HB := Lib.hid (gb_le (zat zs) M)
  have HZ := Lib.hid hz
  have HN := Lib.hid hn
  have HR := Lib.hid hr
  have CN : cnZ (zat zs) M n = (szA (zat zs) M n).length + 1 := by unfold cnZ; rw [if_neg (by omega), sz_len]
  have HCN := Lib.hid CN
  clear hr hn hz CN
  go_enter Try.func15, Try.ntmps15
  go_wp2_with fail
  go_loopw [5, 6, 7, 12] (fun V bg sm i wr => ∃ k : Nat, k ≤ n ∧ i = .int .i64 k ∧ bg = .int .i64 (gbZ (zat zs) M k : Nat) ∧ sm = .int .i64 (gsZ (zat zs) M k) ∧ 0 ≤ gsZ (zat zs) M k ∧ ZRow (zat zs) M k V w wr) (fun _ _ _ i _ => n - (intOf i).toNat)
  case atStart => exact ⟨0, by omega, rfl, rfl, rfl, Int.le_refl _, World.ownsRow_nil _ _ _ _, Below.refl _ _⟩
  case round =>
    obtain ⟨k, hk, rfl, rfl, rfl, hs0, hown, hb⟩ := hrel
    obtain ⟨vA, vc, hvv⟩ := ownM_slice hown
    subst hvv
    have hcn := HC.out k
    have hgb := (HB.out k).1
    by_cases h : k < n
    · obtain ⟨bb, off, rfl, hlt, hc⟩ := rdI_row (HR.out.kept hb) (by have := HN.out; omega)
      have ck := hc k (by have := HN.out; omega)
      have sl := sz_len (zat zs) M k
      have GS : gsZ (zat zs) M (k + 1) = if M < gsZ (zat zs) M k + zat zs k then zat zs k else gsZ (zat zs) M k + zat zs k := gs_succ _ _ _
      have GB : gbZ (zat zs) M (k + 1) = if M < gsZ (zat zs) M k + zat zs k then k else gbZ (zat zs) M k := gb_succ _ _ _
      have SY := sz_yes (l := zat zs) (M := M) (k := k)
      have SN := sz_no (l := zat zs) (M := M) (k := k)
      have sg := HG.out k (by omega)
      obtain ⟨zb0, zb1⟩ := HZ.out k h
      obtain ⟨L, hL⟩ : ∃ L, szA (zat zs) M k = L := ⟨_, rfl⟩
      rw [hL] at SY SN hown sl ⊢
      obtain ⟨zv, hzv⟩ : ∃ z, zat zs k = z := ⟨_, rfl⟩
      rw [hzv] at ck GS GB SY SN zb0 zb1
      obtain ⟨S, hS⟩ : ∃ z, gsZ (zat zs) M k = z := ⟨_, rfl⟩
      rw [hS] at GS GB SY SN sg hs0 ⊢
      obtain ⟨B, hB⟩ : ∃ z, gbZ (zat zs) M k = z := ⟨_, rfl⟩
      rw [hB] at GB SY hgb ⊢
      obtain ⟨q, hq⟩ : ∃ q, L.length = q := ⟨_, rfl⟩
      have ZP := zL_push L (B : Int) (k : Int)
      rw [hq] at ZP hown sl ⊢
      have kI : (k : Int) < (n : Int) := by omega
      have k0 : (0 : Int) ≤ (k : Int) := by omega
      clear hc hzv hS hB hL
      have HQ := Lib.hid hq
      clear hq
      by_cases hM : M < S + zv
      · have G1 := Lib.hid (GS.trans (if_pos hM)); have G2 := Lib.hid (GB.trans (if_pos hM)); have G3 := Lib.hid (SY hM); have G4 := Lib.hid ZP
        clear GS GB SY SN ZP
        go_wp2_with (at_builtin; (refine wpList_append_own_at _ rfl _ _ 27 rfl w.heap.size 31 i0 (.agg #[.int .i64 0, .int .i64 0]) 2 16 Try.underlying27 hi hz0 hz1 hz2 rfl (by decide) _ _ _ rfl (hown.alloc _) ⟨_, 0, none⟩ 1 1 [.int .i64 (B : Int), .int .i64 (k : Int)] rfl rfl (newsM_new (cs := #[.int .i64 (B : Int), .int .i64 (k : Int)])) (by intro u hu; simp at hu; rcases hu with rfl | rfl <;> rfl) (by unfold maxLen; omega) (by omega) (by have := hb.size; simp; omega) ?_); intro v' w1 hown' hgrow _ hat)
        have hb1 : Below w.heap.size w w1 := by
          refine (hb.alloc hb.size _).grown hgrow (by have := hb.size; simp; omega) (fun g hg => ?_)
          first | exact ownR_ge hown hg | exact ownR_ge hown hg.symm
        have HO : Hid (ZRow (zat zs) M (k + 1) v' w w1) := Lib.hid (by
          unfold ZRow
          rw [G3.out, List.length_append, HQ.out]
          refine ⟨?_, hb1⟩
          have h := hown'
          rw [G4.out] at h
          exact h)
        clear hown' hgrow hat
        go_wp2_with fail
        go_roundw
        case rel => exact ⟨k + 1, by omega, by go_num, by rw [G2.out], by rw [G1.out], by rw [G1.out]; exact zb0, HO.out⟩
        case measure => simp [intOf]; omega
      · have G1 := Lib.hid (GS.trans (if_neg hM)); have G2 := Lib.hid (GB.trans (if_neg hM)); have G3 := Lib.hid (SN hM)
        have hle : S + zv ≤ M := by omega
        clear GS GB SY SN ZP
        have HO : Hid (ZRow (zat zs) M (k + 1) (.slice vA q vc) w wr) := Lib.hid (by
          unfold ZRow
          rw [G3.out, HQ.out]
          exact ⟨hown, hb⟩)
        clear hown
        go_wp2_with fail
        go_roundw
        case rel => exact ⟨k + 1, by omega, by go_num, by rw [G2.out], by rw [G1.out], by rw [G1.out]; omega, HO.out⟩
        case measure => simp [intOf]; omega
    · obtain rfl : k = n := by omega
      have h' : ¬ ((k : Int) < k) := by omega
      have sl := sz_len (zat zs) M k
      have CL : cutL (zat zs) M k = szA (zat zs) M k ++ [(((gbZ (zat zs) M k : Nat) : Int), (k : Int))] := rfl
      obtain ⟨L, hL⟩ : ∃ L, szA (zat zs) M k = L := ⟨_, rfl⟩
      have hcc := HCN.out
      rw [hL] at hown sl CL hcc ⊢
      obtain ⟨S, hS⟩ : ∃ z, gsZ (zat zs) M k = z := ⟨_, rfl⟩
      rw [hS]
      obtain ⟨B, hB⟩ : ∃ z, gbZ (zat zs) M k = z := ⟨_, rfl⟩
      rw [hB] at hgb CL ⊢
      obtain ⟨q, hq⟩ : ∃ q, L.length = q := ⟨_, rfl⟩
      have ZP := zL_push L (B : Int) (k : Int)
      rw [hq] at ZP hown sl hcc ⊢
      have G4 := Lib.hid ZP; have HCL := Lib.hid CL; have HQ := Lib.hid hcc
      clear hS hB hL ZP CL hq hcc HCN
      go_wp2_with (at_builtin; (refine wpList_append_own_at _ rfl _ _ 27 rfl w.heap.size 31 i0 (.agg #[.int .i64 0, .int .i64 0]) 2 16 Try.underlying27 hi hz0 hz1 hz2 rfl (by decide) _ _ _ rfl (hown.alloc _) ⟨_, 0, none⟩ 1 1 [.int .i64 (B : Int), .int .i64 (k : Int)] rfl rfl (newsM_new (cs := #[.int .i64 (B : Int), .int .i64 (k : Int)])) (by intro u hu; simp at hu; rcases hu with rfl | rfl <;> rfl) (by unfold maxLen; omega) (by omega) (by have := hb.size; simp; omega) ?_); intro v' w1 hown' hgrow _ hat)
      have hb1 : Below w.heap.size w w1 := by
        refine (hb.alloc hb.size _).grown hgrow (by have := hb.size; simp; omega) (fun g hg => ?_)
        first | exact ownR_ge hown hg | exact ownR_ge hown hg.symm
      have hO : w1.ownsRow w.heap.size 31 2 v' (q + 1) (rowM 2 (zL (cutL (zat zs) M k)) (q + 1)) := by
        rw [HCL.out, ← G4.out]; exact hown'
      have WF := HW.out
      rw [HQ.out] at WF
      obtain ⟨A', c', hv', h1', h2', hRD⟩ := ownM_rd hO WF
      subst hv'
      have HF : Hid (∀ e, e = Ending.returned (.slice A' (q + 1) c') → CutR (zat zs) M k w e w1) := Lib.hid fun e he => by
        unfold CutR
        rw [HQ.out]
        exact ⟨A', c', he, h1', h2', hRD, hb1⟩
      clear hown' hgrow hat hO WF hRD h1' h2' hb1
      go_wp2_with fail
      go_ret
      exact HF.out _ rfl
end Go.Proofs.Ytbjcigkakeffmab
