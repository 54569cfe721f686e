/- The walk of PackBack: it answers true for every input, and leaves all old blocks as they were. No condition. -/
import Derived.Test.YtnjdeikikdieoabRows
import Derived.Test.YtnjdeikikdieoabRowKit
import Derived.Test.YtnjdeikikdieoabRowT
import Derived.Test.YtnjdeikikdieoabPackE
import Derived.Test.YtnjdeikikdieoabBlocks
import Derived.Test.YtnjdeikikdieoabPackRM
import Derived.Test.YtnjdeikikdieoabPackRA
import Derived.Test.YtnjdeikikdieoabPackRB
import Derived.WalkKit
import Derived.ProofKit
import Derived.OpenShut
import Derived.Deep.QuietTactic
import Derived.BigQuiet
import Derived.Lib.SmallJoins
import Derived.Lib.Hide
import Derived.WalkSpells
import Derived.WalkLawsBesides
import Derived.Deep.LoopGhost
import Derived.OwnWalk
import Derived.BigRegion
import Derived.Deep.RegionHeld3
import Derived.IntWalk
namespace Go.Proofs.Ytnjdeikikdieoab.packBack
open Go.ChangeShapes Go.WideShapes Go.ChangeAt Go.RowKit Go.Joins
set_option linter.unusedSimpArgs false
set_option linter.unusedVariables false

/-- the bytes of the first numbers, and of the first texts -/
def numsB (z : Nat → Int) : Nat → List Int
  | 0 => []
  | k + 1 => numsB z k ++ putB (foldI (z k)).toNat
def textsB (s : Nat → ByteArray) : Nat → List Int
  | 0 => []
  | k + 1 => textsB s k ++ putB (s k).size ++ strI (s k)
theorem numsB_more (z : Nat → Int) : ∀ n i, i ≤ n → ∃ r, numsB z n = numsB z i ++ r
  | 0, i, h => by obtain rfl : i = 0 := by omega
                  exact ⟨[], by simp⟩
  | n + 1, i, h => by
    by_cases e : i = n + 1
    · exact ⟨[], by rw [e]; simp⟩
    · obtain ⟨r, hr⟩ := numsB_more z n i (by omega)
      exact ⟨r ++ putB (foldI (z n)).toNat, by rw [numsB, hr, List.append_assoc]⟩
theorem textsB_more (s : Nat → ByteArray) : ∀ n i, i ≤ n → ∃ r, textsB s n = textsB s i ++ r
  | 0, i, h => by obtain rfl : i = 0 := by omega
                  exact ⟨[], by simp⟩
  | n + 1, i, h => by
    by_cases e : i = n + 1
    · exact ⟨[], by rw [e]; simp⟩
    · obtain ⟨r, hr⟩ := textsB_more s n i (by omega)
      exact ⟨r ++ (putB (s n).size ++ strI (s n)), by rw [textsB, hr]; simp [List.append_assoc]⟩
theorem next_num {zs ys : List Int} {u : Nat} (hu : u < 18446744073709551616) (h : zs = putB u ++ ys) : (numB zs).1 = u ∧ nextB zs = ys ∧ isBad zs = false := by
  have e := numB_some hu ⟨ys, h⟩
  have b := (putB_ten hu).1
  have hz : (numB zs).2 ≠ 0 := by rw [e]; show (putB u).length ≠ 0; omega
  refine ⟨by rw [e], ?_, by simpa [isBad] using hz⟩
  unfold nextB
  rw [if_neg hz, e, h]
  simp
theorem str_back (s : ByteArray) : strOfNums (strI s) = s := by
  apply ByteArray.ext
  apply Array.toList_inj.1
  rw [strOfNums_data]
  unfold strI
  rw [List.map_map]
  conv => rhs; rw [← List.map_id s.data.toList]
  apply List.map_congr_left
  intro b _
  simp
theorem next_text {zs ys : List Int} {s : ByteArray} (hs : s.size < 18446744073709551616) (h : zs = putB s.size ++ (strI s ++ ys)) : textV zs = s ∧ textN zs = ys ∧ textBad zs = false := by
  obtain ⟨h1, h2, h3⟩ := next_num hs h
  have hl : ¬ (strI s ++ ys).length < s.size := by rw [List.length_append, strI_len]; omega
  have e1 : (strI s ++ ys).take s.size = strI s := by rw [← strI_len s]; simp
  have e2 : (strI s ++ ys).drop s.size = ys := by rw [← strI_len s]; simp
  refine ⟨?_, ?_, ?_⟩
  · unfold textV; rw [h2, h1, if_neg hl, e1, str_back]
  · unfold textN; rw [h2, h1, if_neg hl, e2]
  · unfold textBad; rw [h2, h1, h3, decide_eq_false hl]; rfl
theorem owB_rd2 {w : World} {B : Nat} {v : Value} {ys : List Int} (h : OwB w B v ys) (hz : ∀ z, z ∈ ys → 0 ≤ z ∧ z < 256) : ∃ A c, v = .slice A ys.length c ∧ RdI w .u8 A ys ∧ ys.length ≤ c ∧ c ≤ maxLen := by
  obtain ⟨A, c, h1, h2⟩ := owB_rd h hz
  rcases h.2 with ⟨h3, hn⟩ | ⟨g, cap, cur, h3, hg, hh, hnc, hcm, hcs, htake⟩
  · rw [h1] at h3
    simp only [Value.slice.injEq] at h3
    exact ⟨A, c, h1, h2, by omega, by rw [h3.2.2]; simp⟩
  · rw [h1] at h3
    simp only [Value.slice.injEq] at h3
    exact ⟨A, c, h1, h2, by omega, by omega⟩
theorem below_of {B : Nat} {w w1 : World} (h : Below B w w1) : Below B w w1 := h
set_option maxRecDepth 100000 in
set_option maxHeartbeats 8000000 in
theorem walk {A K : Option Addr} {c ck m : Nat} {ks : List Int} {t : Nat → ByteArray} {w : World} (hc1 : ks.length ≤ c) (hc2 : c ≤ maxLen) (hr : RdI w .i64 A ks) (hk1 : m ≤ ck) (hk2 : ck ≤ maxLen) (hrt : RdT w K m t) (_ : K = none → ck = 0) :
    Calls Try.prog 5 #[.slice A ks.length c, .slice K m ck] w fun e w' => e = .returned (.bool true) ∧ Below w.heap.size w w' := by
  have hM : maxLen ≤ 9223372036854775807 := by decide
  have HR := Lib.hid hr
  have HRT := Lib.hid hrt
  obtain ⟨n, hn⟩ : ∃ n, ks.length = n := ⟨_, rfl⟩
  have HN := Lib.hid hn
  rw [hn] at hc1 ⊢
  have HB64 := Lib.hid (fun i (hi : i < ks.length) => by obtain ⟨_, _, _, _, q⟩ := hr i hi; exact bounds_i64 q)
  clear hr hrt hn
  by_cases g1 : 50 < n
  · have g1' : (50 : Int) < (n : Int) := by omega
    go_enter Try.func5, Try.ntmps5
    go_wp2_with fail
    go_ret
    exact ⟨rfl, Below.refl _ _⟩
  by_cases g2 : 50 < m
  · have g1' : ¬ (50 : Int) < (n : Int) := by omega
    have g2' : (50 : Int) < (m : Int) := by omega
    go_enter Try.func5, Try.ntmps5
    go_wp2_with fail
    go_ret
    exact ⟨rfl, Below.refl _ _⟩
  have g1' : ¬ (50 : Int) < (n : Int) := by omega
  have g2' : ¬ (50 : Int) < (m : Int) := by omega
  go_enter Try.func5, Try.ntmps5
  go_wp2_with fail
  go_loopw [5, 6] (fun b i wr => ∃ k : Nat, k ≤ n ∧ i = .int .i64 k ∧ Hid (OwB wr w.heap.size b (numsB (zat ks) k) ∧ (numsB (zat ks) k).length ≤ 10 * k ∧ (∀ z, z ∈ numsB (zat ks) k → 0 ≤ z ∧ z < 256) ∧ Below w.heap.size w wr)) (fun _ i _ => n - (intOf i).toNat)
  case atStart => exact ⟨0, by omega, rfl, Lib.hid ⟨owB_nil _ _, by simp [numsB], fun z hz => by simp [numsB] at hz, Below.refl _ _⟩⟩
  case round =>
    obtain ⟨k, hk, rfl, HI⟩ := hrel
    by_cases h : k < n
    · skip
      obtain ⟨bk, ok, rfl, _, hcell⟩ := rdI_row HR.out (by rw [HN.out]; omega)
      obtain ⟨bk', ok', e', _, hcell'⟩ := rdI_row (RdI.kept HR.out HI.out.2.2.2) (by rw [HN.out]; omega)
      cases e'
      have c0 := hcell' k (by rw [HN.out]; exact h)
      have hb := HB64.out k (by rw [HN.out]; exact h)
      obtain ⟨x, hx⟩ : ∃ x, zat ks k = x := ⟨_, rfl⟩
      rw [hx] at c0 hb
      have HX := Lib.hid hx
      clear hcell hcell' hx
      obtain ⟨hb0, hb1⟩ := hb
      have hfb := fold_bd hb0 hb1
      have KP := Lib.hid (pputint_any (numsB (zat ks) k) _ x (foldI x).toNat w.heap.size wr hb0 hb1 (by omega) (by have := HI.out.2.1; omega) HI.out.2.2.2.size HI.out.1)
      clear hfb
      go_wp2_with fail
      refine KP.out.mono ?_
      rintro e w2 ⟨v2, rfl, o2, b2⟩
      have HJ : Hid (OwB w2 w.heap.size v2 (numsB (zat ks) (k + 1)) ∧ (numsB (zat ks) (k + 1)).length ≤ 10 * (k + 1) ∧ (∀ z, z ∈ numsB (zat ks) (k + 1) → 0 ≤ z ∧ z < 256) ∧ Below w.heap.size w w2) := Lib.hid (by
        have hu : (foldI x).toNat < 18446744073709551616 := by have := fold_bd hb0 hb1; omega
        have hp := putB_ten hu
        have e : numsB (zat ks) (k + 1) = numsB (zat ks) k ++ putB (foldI x).toNat := by rw [numsB, HX.out]
        rw [e]
        obtain ⟨q1, q2, q3, q4⟩ := HI.out
        refine ⟨o2, by rw [List.length_append]; omega, in_app q3 (putB_in64 hu), q4.trans b2⟩)
      clear o2 b2 KP HI
      go_wp2_with fail
      go_roundw
      case rel => exact ⟨k + 1, by omega, by go_num, HJ⟩
      case measure => simp [intOf]; omega
    · obtain rfl : k = n := by omega
      clear h hk
      obtain ⟨N, hNN⟩ : ∃ N, numsB (zat ks) k = N := ⟨_, rfl⟩
      have HNN := Lib.hid hNN
      rw [hNN] at HI
      clear hNN
      go_wp2_with fail
      go_loopw [5, 7] (fun b i wr => ∃ j : Nat, j ≤ m ∧ i = .int .i64 j ∧ Hid ((∀ q, q < j → (t q).size ≤ 100) ∧ OwB wr w.heap.size b (N ++ textsB t j) ∧ (N ++ textsB t j).length ≤ 500 + 110 * j ∧ (∀ z, z ∈ N ++ textsB t j → 0 ≤ z ∧ z < 256) ∧ Below w.heap.size w wr)) (fun _ i _ => m - (intOf i).toNat)
      case atStart => exact ⟨0, by omega, rfl, Lib.hid ⟨fun q hq => absurd hq (by omega), by simpa [textsB] using HI.out.1, by have := HI.out.2.1; simp [textsB]; omega, by simpa [textsB] using HI.out.2.2.1, HI.out.2.2.2⟩⟩
      case round =>
        obtain ⟨j, hj, rfl, HI2⟩ := hrel
        by_cases h : j < m
        · skip
          obtain ⟨bk, ok, rfl, _, hcell⟩ := rdT_row HRT.out (by omega)
          obtain ⟨bk', ok', e', _, hcell'⟩ := rdT_row (RdT.kept HRT.out HI2.out.2.2.2.2) (by omega)
          cases e'
          have c0 := hcell' j h
          obtain ⟨x, hx⟩ : ∃ x, t j = x := ⟨_, rfl⟩
          rw [hx] at c0
          have HX := Lib.hid hx
          clear hcell hcell' hx
          by_cases hbig : 100 < x.size
          · have hbig' : (100 : Int) < (x.size : Int) := by omega
            go_wp2_with fail
            go_ret
            exact ⟨rfl, HI2.out.2.2.2.2⟩
          · have hbig' : ¬ (100 : Int) < (x.size : Int) := by omega
            have KP := Lib.hid (pputtext_any (N ++ textsB t j) _ x w.heap.size wr (by omega) (by have := HI2.out.2.2.1; omega) HI2.out.2.2.2.2.size HI2.out.2.1)
            go_wp2_with fail
            refine KP.out.mono ?_
            rintro e w2 ⟨v2, rfl, o2, b2⟩
            have HJ : Hid ((∀ q, q < j + 1 → (t q).size ≤ 100) ∧ OwB w2 w.heap.size v2 (N ++ textsB t (j + 1)) ∧ (N ++ textsB t (j + 1)).length ≤ 500 + 110 * (j + 1) ∧ (∀ z, z ∈ N ++ textsB t (j + 1) → 0 ≤ z ∧ z < 256) ∧ Below w.heap.size w w2) := Lib.hid (by
              have hu : x.size < 18446744073709551616 := by omega
              have hp := putB_ten hu
              have e : N ++ textsB t (j + 1) = N ++ textsB t j ++ putB x.size ++ strI x := by rw [textsB, HX.out]; simp [List.append_assoc]
              rw [e]
              obtain ⟨q0, q1, q2, q3, q4⟩ := HI2.out
              refine ⟨fun q hq => ?_, o2, by rw [List.length_append, List.length_append, strI_len]; omega, in_app (in_app q3 (putB_in64 hu)) (strI_in x), q4.trans b2⟩
              by_cases hqj : q < j
              · exact q0 q hqj
              · obtain rfl : q = j := by omega
                rw [HX.out]; omega)
            clear o2 b2 KP HI2
            go_wp2_with fail
            go_roundw
            case rel => exact ⟨j + 1, by omega, by go_num, HJ⟩
            case measure => simp [intOf]; omega
        · obtain rfl : j = m := by omega
          clear h hj
          obtain ⟨q0, q1, q2, q3, q4⟩ := HI2.out
          obtain ⟨Bt, hBt⟩ : ∃ Bt, N ++ textsB t j = Bt := ⟨_, rfl⟩
          have HBT := Lib.hid hBt
          rw [hBt] at q1 q2 q3
          have HQ0 := Lib.hid q0
          obtain ⟨A9, c9, rfl, r9, l9, m9⟩ := owB_rd2 q1 q3
          have HR9 := Lib.hid r9
          have H4 := Lib.hid q4
          clear q0 q1 q3 q4 r9 HI2 HI hBt
          go_wp2_with fail
          refine (pmake_any A9 c9 Bt wr HR9.out l9 m9).mono ?_
          rintro e V1 ⟨rfl, hrs, hbV, hsz⟩
          have HRS := Lib.hid hrs
          have HBV1 := Lib.hid hbV
          clear hrs hbV hsz
          obtain ⟨V, hVV⟩ : ∃ V, wr = V := ⟨_, rfl⟩
          rw [hVV] at H4 HR9 HRS HBV1 ⊢
          obtain ⟨g, hg⟩ : ∃ g, V.heap.size = g := ⟨_, rfl⟩
          have HG := Lib.hid hg
          have HBV0 : Hid (Below V.heap.size V V1) := HBV1
          rw [hg] at HRS ⊢
          clear hVV hg HBV1
          have hgg := HG.out
          go_wp2_with fail
          go_loopw [9] (fun i wr => ∃ (i' : Nat) (zs : List Int), i' ≤ k ∧ i = .int .i64 i' ∧ Hid (numsB (zat ks) i' ++ zs = Bt ∧ RS V wr g 85 zs false ∧ Below V.heap.size V wr)) (fun i _ => k - (intOf i).toNat)
          case atStart => exact ⟨0, Bt, by omega, rfl, Lib.hid ⟨by simp [numsB], HRS.out, HBV0.out⟩⟩
          case round =>
            obtain ⟨i', zs, hi', rfl, HI3⟩ := hrel
            by_cases h : i' < k
            · have h' : i' < k := h
              have HBV : Hid (Below V.heap.size V wr.drew) := Lib.hid HI3.out.2.2.drew
              obtain ⟨bk, ok, rfl, _, hcell⟩ := rdI_row HR.out (by rw [HN.out]; omega)
              have HCB : Hid (∀ X, Below V.heap.size V X → X.cell? ⟨bk, ok + i', none⟩ = some (.int .i64 (zat ks i'))) := Lib.hid (fun X hX => by
                obtain ⟨bk', ok', e', _, hcell'⟩ := rdI_row (RdI.kept (RdI.kept HR.out H4.out) hX) (by rw [HN.out]; omega)
                cases e'
                exact hcell' i' (by rw [HN.out]; exact h'))
              have hb := HB64.out i' (by rw [HN.out]; exact h')
              obtain ⟨r', hr'⟩ := numsB_more (zat ks) k (i' + 1) h'
              have HZ : Hid (zs = putB (foldI (zat ks i')).toNat ++ (r' ++ textsB t j)) := Lib.hid (by
                have e := HI3.out.1
                rw [← HBT.out, ← HNN.out, hr', numsB] at e
                simp only [List.append_assoc] at e
                exact List.append_cancel_left e)
              have hfb := fold_bd hb.1 hb.2
              obtain ⟨n1, n2, n3⟩ := next_num (u := (foldI (zat ks i')).toNat) (by omega) HZ.out
              have hlz : zs.length ≤ 1000000 := by
                have e := congrArg List.length HI3.out.1
                rw [List.length_append] at e
                omega
              have KI := pint_any g zs false V wr.drew (rs_next HI3.out.2.1 (Below.refl wr.heap.size wr).drew) HBV.out hlz
              have ex : unfoldI ((foldI (zat ks i')).toNat : Int) = zat ks i' := by rw [show ((foldI (zat ks i')).toNat : Int) = foldI (zat ks i') by omega]; exact unfold_fold _
              rw [n1, n2, n3, ex] at KI
              have KI := Lib.hid KI
              have HE2 : Hid (numsB (zat ks) (i' + 1) ++ (r' ++ textsB t j) = Bt) := Lib.hid (by rw [← HBT.out, ← HNN.out, hr']; simp [List.append_assoc])
              obtain ⟨x, hx⟩ : ∃ x, zat ks i' = x := ⟨_, rfl⟩
              rw [hx] at HCB KI
              have HS : Hid (wr.cell? ⟨bk, ok + i', none⟩ = some (.int .i64 x)) := Lib.hid (HCB.out _ HI3.out.2.2)
              have hxx : (x != x) = false := by simp
              clear hcell hb hr' HZ hfb n1 n2 n3 hlz ex hx
              go_wp2_with fail
              refine wp_region_held_drew (S := fun X : World => X.cell? ⟨bk, ok + i', none⟩ = some (.int .i64 x)) (by kernel_rfl) HS.out (fun hHeld => ?_)
              clear hHeld
              refine wpAnyH_take (i := 0) (v := ?_) rfl (by kernel_rfl) (by kernel_rfl) (by kernel_rfl) (fun _ _ _ h => h) (Or.inl ⟨by rfl, ?_⟩) HS.out ?_
              rotate_left
              · (intro wS hSw; (try dsimp only at hSw); go_simp; try with_reducible rfl)
              simp only [Act.put, List.getElem_toArray, List.getElem_cons_zero, List.getElem_cons_succ, List.setIfInBounds_toArray, List.set_cons_zero, List.set_cons_succ]
              refine wpAnyH_take (i := 2) (v := ?_) rfl (by kernel_rfl) (by kernel_rfl) (by kernel_rfl) (fun _ _ _ h => h) (Or.inl ⟨by rfl, ?_⟩) HS.out ?_
              rotate_left
              · (intro wS hSw; (try dsimp only at hSw); go_simp; try with_reducible rfl)
              simp only [Act.put, List.getElem_toArray, List.getElem_cons_zero, List.getElem_cons_succ, List.setIfInBounds_toArray, List.set_cons_zero, List.set_cons_succ]
              refine wpAnyH_take (i := 3) (v := ?_) rfl (by kernel_rfl) (by kernel_rfl) (by kernel_rfl) (fun _ _ _ h => h) (Or.inl ⟨by rfl, ?_⟩) HS.out ?_
              rotate_left
              · (intro wS hSw; (try dsimp only at hSw); go_simp; try with_reducible rfl)
              simp only [Act.put, List.getElem_toArray, List.getElem_cons_zero, List.getElem_cons_succ, List.setIfInBounds_toArray, List.set_cons_zero, List.set_cons_succ]
              refine wpAnyH_take (i := 4) (v := ?_) rfl (by kernel_rfl) (by kernel_rfl) (by kernel_rfl) (fun _ _ _ h => h) (Or.inl ⟨by rfl, ?_⟩) HS.out ?_
              rotate_left
              · (intro wS hSw; (try dsimp only at hSw); go_simp; try with_reducible rfl)
              simp only [Act.put, List.getElem_toArray, List.getElem_cons_zero, List.getElem_cons_succ, List.setIfInBounds_toArray, List.set_cons_zero, List.set_cons_succ]
              refine wpAnyH_take (i := 5) (v := ?_) rfl (by kernel_rfl) (by kernel_rfl) (by kernel_rfl) (fun _ _ _ h => h) (Or.inl ⟨by rfl, ?_⟩) HS.out ?_
              rotate_left
              · (intro wS hSw; (try dsimp only at hSw); go_simp; try with_reducible rfl)
              simp only [Act.put, List.getElem_toArray, List.getElem_cons_zero, List.getElem_cons_succ, List.setIfInBounds_toArray, List.set_cons_zero, List.set_cons_succ]
              refine wpAnyH_ready (rs := [1]) (by kernel_rfl) (by simp) ?_
              refine AllReadyH.cons rfl (fun K hK => ?_) AllReadyH.nil
              go_simp
              refine (KI.out).mono ?_
              rintro e r1 ⟨rfl, a1, a2⟩
              have HA1 := Lib.hid a1; have HA2 := Lib.hid a2
              have HS2 := Lib.hid (HCB.out _ (upd_below HBV.out (by omega) a2))
              clear a1 a2
              go_wp2_with fail
              refine hK.out _ _ HS2.out (fun hHeld => ?_)
              clear hK K hHeld
              try simp only [Act.put, List.getElem_toArray, List.getElem_cons_zero, List.getElem_cons_succ, List.setIfInBounds_toArray, List.set_cons_zero, List.set_cons_succ]
              refine wpAnyH_take (i := 6) (v := ?_) rfl (by kernel_rfl) (by kernel_rfl) (by kernel_rfl) (fun _ _ _ h => h) (Or.inl ⟨by rfl, ?_⟩) HS2.out ?_
              rotate_left
              · (intro wS hSw; (try dsimp only at hSw); go_simp; try with_reducible rfl)
              simp only [Act.put, List.getElem_toArray, List.getElem_cons_zero, List.getElem_cons_succ, List.setIfInBounds_toArray, List.set_cons_zero, List.set_cons_succ]
              refine wpAnyH_done (by kernel_rfl) ?_ _
              go_wp2_with fail
              go_roundw
              case rel => exact ⟨i' + 1, _, by omega, by go_num, Lib.hid ⟨HE2.out, HA1.out, upd_below HBV.out (by omega) HA2.out⟩⟩
              case measure => simp [intOf]; omega
            · obtain rfl : i' = k := by omega
              clear h hi'
              have HZ0 : Hid (zs = textsB t j) := Lib.hid (by
                have e := HI3.out.1
                rw [← HBT.out, HNN.out] at e
                exact List.append_cancel_left e)
              go_wp2_with fail
              go_loopw [10] (fun i wr => ∃ (i' : Nat) (zs : List Int), i' ≤ j ∧ i = .int .i64 i' ∧ Hid (textsB t i' ++ zs = textsB t j ∧ RS V wr g 85 zs false ∧ Below V.heap.size V wr)) (fun i _ => j - (intOf i).toNat)
              case atStart => exact ⟨0, zs, by omega, rfl, Lib.hid ⟨by simpa [textsB] using HZ0.out, HI3.out.2.1, HI3.out.2.2⟩⟩
              case round =>
                clear HI3 HZ0
                obtain ⟨i', zs, hi', rfl, HI3⟩ := hrel
                by_cases h : i' < j
                · have h' : i' < j := h
                  have HBV : Hid (Below V.heap.size V wr.drew) := Lib.hid HI3.out.2.2.drew
                  obtain ⟨bk, ok, rfl, _, hcell⟩ := rdT_row HRT.out (by omega)
                  have HCB : Hid (∀ X, Below V.heap.size V X → X.cell? ⟨bk, ok + i', none⟩ = some (.string (t i'))) := Lib.hid (fun X hX => by
                    obtain ⟨bk', ok', e', _, hcell'⟩ := rdT_row (RdT.kept (RdT.kept HRT.out H4.out) hX) (by omega)
                    cases e'
                    exact hcell' i' h')
                  have hb := HQ0.out i' h'
                  obtain ⟨r', hr'⟩ := textsB_more t j (i' + 1) h'
                  have HZ : Hid (zs = putB (t i').size ++ (strI (t i') ++ r')) := Lib.hid (by
                    have e := HI3.out.1
                    rw [hr', textsB] at e
                    simp only [List.append_assoc] at e
                    exact List.append_cancel_left e)
                  obtain ⟨n1, n2, n3⟩ := next_text (s := t i') (by omega) HZ.out
                  have hlz : zs.length ≤ 1000000 := by
                    have e := congrArg List.length HI3.out.1
                    have e2 := congrArg List.length HBT.out
                    rw [List.length_append] at e e2
                    omega
                  have KI := ptext_any g zs false V wr.drew (rs_next HI3.out.2.1 (Below.refl wr.heap.size wr).drew) HBV.out (by omega) hlz
                  rw [n1, n2, n3] at KI
                  have KI := Lib.hid KI
                  have HE2 : Hid (textsB t (i' + 1) ++ r' = textsB t j) := Lib.hid hr'.symm
                  obtain ⟨x, hx⟩ : ∃ x, t i' = x := ⟨_, rfl⟩
                  rw [hx] at HCB KI
                  have HS : Hid (wr.cell? ⟨bk, ok + i', none⟩ = some (.string x)) := Lib.hid (HCB.out _ HI3.out.2.2)
                  have hxx : (x.toList != x.toList) = false := by simp
                  clear hcell hb hr' HZ n1 n2 n3 hlz hx
                  go_wp2_with fail
                  refine wp_region_held_drew (S := fun X : World => X.cell? ⟨bk, ok + i', none⟩ = some (.string x)) (by kernel_rfl) HS.out (fun hHeld => ?_)
                  clear hHeld
                  refine wpAnyH_take (i := 0) (v := ?_) rfl (by kernel_rfl) (by kernel_rfl) (by kernel_rfl) (fun _ _ _ h => h) (Or.inl ⟨by rfl, ?_⟩) HS.out ?_
                  rotate_left
                  · (intro wS hSw; (try dsimp only at hSw); go_simp; try with_reducible rfl)
                  simp only [Act.put, List.getElem_toArray, List.getElem_cons_zero, List.getElem_cons_succ, List.setIfInBounds_toArray, List.set_cons_zero, List.set_cons_succ]
                  refine wpAnyH_take (i := 2) (v := ?_) rfl (by kernel_rfl) (by kernel_rfl) (by kernel_rfl) (fun _ _ _ h => h) (Or.inl ⟨by rfl, ?_⟩) HS.out ?_
                  rotate_left
                  · (intro wS hSw; (try dsimp only at hSw); go_simp; try with_reducible rfl)
                  simp only [Act.put, List.getElem_toArray, List.getElem_cons_zero, List.getElem_cons_succ, List.setIfInBounds_toArray, List.set_cons_zero, List.set_cons_succ]
                  refine wpAnyH_take (i := 3) (v := ?_) rfl (by kernel_rfl) (by kernel_rfl) (by kernel_rfl) (fun _ _ _ h => h) (Or.inl ⟨by rfl, ?_⟩) HS.out ?_
                  rotate_left
                  · (intro wS hSw; (try dsimp only at hSw); go_simp; try with_reducible rfl)
                  simp only [Act.put, List.getElem_toArray, List.getElem_cons_zero, List.getElem_cons_succ, List.setIfInBounds_toArray, List.set_cons_zero, List.set_cons_succ]
                  refine wpAnyH_take (i := 4) (v := ?_) rfl (by kernel_rfl) (by kernel_rfl) (by kernel_rfl) (fun _ _ _ h => h) (Or.inl ⟨by rfl, ?_⟩) HS.out ?_
                  rotate_left
                  · (intro wS hSw; (try dsimp only at hSw); go_simp; try with_reducible rfl)
                  simp only [Act.put, List.getElem_toArray, List.getElem_cons_zero, List.getElem_cons_succ, List.setIfInBounds_toArray, List.set_cons_zero, List.set_cons_succ]
                  refine wpAnyH_take (i := 5) (v := ?_) rfl (by kernel_rfl) (by kernel_rfl) (by kernel_rfl) (fun _ _ _ h => h) (Or.inl ⟨by rfl, ?_⟩) HS.out ?_
                  rotate_left
                  · (intro wS hSw; (try dsimp only at hSw); go_simp; try with_reducible rfl)
                  simp only [Act.put, List.getElem_toArray, List.getElem_cons_zero, List.getElem_cons_succ, List.setIfInBounds_toArray, List.set_cons_zero, List.set_cons_succ]
                  refine wpAnyH_ready (rs := [1]) (by kernel_rfl) (by simp) ?_
                  refine AllReadyH.cons rfl (fun K hK => ?_) AllReadyH.nil
                  go_simp
                  refine (KI.out).mono ?_
                  rintro e r1 ⟨rfl, a1, a2⟩
                  have HA1 := Lib.hid a1; have HA2 := Lib.hid a2
                  have HS2 := Lib.hid (HCB.out _ (upd_below HBV.out (by omega) a2))
                  clear a1 a2
                  go_wp2_with fail
                  refine hK.out _ _ HS2.out (fun hHeld => ?_)
                  clear hK K hHeld
                  try simp only [Act.put, List.getElem_toArray, List.getElem_cons_zero, List.getElem_cons_succ, List.setIfInBounds_toArray, List.set_cons_zero, List.set_cons_succ]
                  refine wpAnyH_take (i := 6) (v := ?_) rfl (by kernel_rfl) (by kernel_rfl) (by kernel_rfl) (fun _ _ _ h => h) (Or.inl ⟨by rfl, ?_⟩) HS2.out ?_
                  rotate_left
                  · (intro wS hSw; (try dsimp only at hSw); go_simp; try with_reducible rfl)
                  simp only [Act.put, List.getElem_toArray, List.getElem_cons_zero, List.getElem_cons_succ, List.setIfInBounds_toArray, List.set_cons_zero, List.set_cons_succ]
                  refine wpAnyH_done (by kernel_rfl) ?_ _
                  go_wp2_with fail
                  go_roundw
                  case rel => exact ⟨i' + 1, _, by omega, by go_num, Lib.hid ⟨HE2.out, HA1.out, upd_below HBV.out (by omega) HA2.out⟩⟩
                  case measure => simp [intOf]; omega
                · obtain rfl : i' = j := by omega
                  have hz0 : zs = [] := by
                    have e := HI3.out.1
                    conv at e => rhs; rw [← List.append_nil (textsB t i')]
                    exact List.append_cancel_left e
                  subst hz0
                  have KL : Calls Try.prog 21 #[.pointer (some ⟨g, 0, none⟩)] wr fun e w' => e = .returned (.int .i64 0) ∧ wr = w' := pleft_any g [] false V wr HI3.out.2.1 (by simp)
                  have KB := pbad_any g [] false V wr HI3.out.2.1
                  have HL := Lib.hid KL; have HQ := Lib.hid KB
                  have HW := Lib.hid (H4.out.trans (HI3.out.2.2.mono H4.out.size))
                  clear KL KB
                  go_wp2_with fail
                  refine HL.out.mono ?_
                  rintro e w5 ⟨rfl, rfl⟩
                  go_wp2_with fail
                  refine HQ.out.mono ?_
                  rintro e w5 ⟨rfl, rfl⟩
                  go_wp2_with fail
                  refine (pkalive _).mono ?_
                  rintro e w9 ⟨rfl, hb9⟩
                  go_wp2_with fail
                  go_ret
                  exact ⟨rfl, HW.out.trans (hb9.mono HW.out.size)⟩


end Go.Proofs.Ytnjdeikikdieoab.packBack
