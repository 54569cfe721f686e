/- The document's Num, and the methods of its reader. -/
import Derived.Test.YtnjdeikikdieoabPackE
import Derived.Test.YtnjdeikikdieoabPackRM
import Derived.Test.YtnjdeikikdieoabPackRA
import Derived.Test.YtnjdeikikdieoabBlocks
import Derived.Test.YtnjdeikikdieoabPackRB
import Derived.Deep.RegionHeld3
import Derived.BigRegion
import Derived.WalkKit
import Derived.Deep.QuietTactic
import Derived.Lib.Hide
import Derived.Lib.SmallJoins
import Derived.WalkSpells
import Derived.WalkLawsBesides
import Derived.IntWalk
namespace Go.Proofs.Ytnjdeikikdieoab
open Go.RowKit
set_option linter.unusedVariables false
set_option linter.unusedSimpArgs false
theorem lead_spec : ∀ zs : List Int, (∀ j, j < leadB zs → 128 ≤ zat zs j) ∧ (leadB zs < zs.length → zat zs (leadB zs) < 128)
  | [] => ⟨fun j h => absurd h (by simp [leadB]), fun h => absurd h (by simp)⟩
  | c :: cs => by
    obtain ⟨h1, h2⟩ := lead_spec cs
    by_cases h : 128 ≤ c
    · have e : leadB (c :: cs) = leadB cs + 1 := by simp [leadB, h]
      rw [e]
      refine ⟨fun j hj => ?_, fun hj => ?_⟩
      · rcases j with _ | j
        · simpa [zat] using h
        · have := h1 j (by omega)
          simpa [zat] using this
      · have := h2 (by simp at hj; omega)
        simpa [zat] using this
    · have e : leadB (c :: cs) = 0 := by simp [leadB, h]
      rw [e]
      exact ⟨fun j hj => absurd hj (by omega), fun _ => by simp [zat]; omega⟩
theorem strOf_inj {xs ys : List Int} (hx : ∀ z, z ∈ xs → 0 ≤ z ∧ z < 256) (hy : ∀ z, z ∈ ys → 0 ≤ z ∧ z < 256) (h : strOfNums xs = strOfNums ys) : xs = ys := by
  have h1 := congrArg (fun s => s.data.toList) h
  simp only [strOfNums_data] at h1
  induction xs generalizing ys with
  | nil => cases ys with
    | nil => rfl
    | cons y ys => simp at h1
  | cons x xs ih => cases ys with
    | nil => simp at h1
    | cons y ys =>
      simp only [List.map_cons, List.cons.injEq] at h1
      have a1 := hx x (List.mem_cons_self ..)
      have a2 := hy y (List.mem_cons_self ..)
      have e : x = y := by
        have h2 := congrArg UInt8.toNat h1.1
        simp only [UInt8.toNat_ofNat'] at h2
        omega
      rw [e, ih (fun z hz => hx z (List.mem_cons_of_mem _ hz)) (fun z hz => hy z (List.mem_cons_of_mem _ hz)) (by
        apply ByteArray.ext
        apply Array.toList_inj.1
        rw [strOfNums_data, strOfNums_data]
        exact h1.2) h1.2]
theorem str_same {xs ys : List Int} (hx : ∀ z, z ∈ xs → 0 ≤ z ∧ z < 256) (hy : ∀ z, z ∈ ys → 0 ≤ z ∧ z < 256) : ((strOfNums xs).toList == (strOfNums ys).toList) = decide (xs = ys) := by
  by_cases h : xs = ys
  · simp [h]
  · rw [decide_eq_false h, beq_eq_false_iff_ne]
    intro he
    refine h (strOf_inj hx hy ?_)
    apply ByteArray.ext
    apply Array.toList_inj.1
    simpa [ByteArray.toList_eq] using he
set_option maxRecDepth 100000 in
set_option maxHeartbeats 4000000 in
theorem dnum_any (A : Option Addr) (cp : Nat) (zs : List Int) (w : World) (hr : RdI w .u8 A zs) (hl : zs.length ≤ 1000000) (hcp : zs.length ≤ cp) (hcm : cp ≤ maxLen) :
    Calls Try.prog 25 #[.slice A zs.length cp] w fun e w' => e = .returned (.tuple #[.int .u64 ((numB zs).1 : Nat), .int .i64 ((numB zs).2 : Nat)]) ∧ Below w.heap.size w w' := by
  have hM : maxLen ≤ 9223372036854775807 := by decide
  have hin := Lib.hid (rd_in hr)
  have HR := Lib.hid hr
  obtain ⟨ls1, ls2⟩ := lead_spec zs
  have HL1 := Lib.hid ls1; have HL2 := Lib.hid ls2
  have lle := leadB_le zs
  clear hr ls1 ls2
  obtain ⟨m, hm⟩ : ∃ m, leadB zs = m := ⟨_, rfl⟩
  have HM := Lib.hid hm
  rw [hm] at HL1 HL2 lle
  clear hm
  obtain ⟨F, hF⟩ : ∃ F, numB zs = F := ⟨_, rfl⟩
  have HF := Lib.hid hF
  rw [hF]
  unfold numB at hF
  rw [HM.out] at hF
  have HD := Lib.hid hF
  clear hF
  obtain ⟨n, hn⟩ : ∃ n, zs.length = n := ⟨_, rfl⟩
  have HN := Lib.hid hn
  rw [hn] at hl hcp lle HL2 HD ⊢
  clear hn
  go_enter Try.func25, Try.ntmps25
  go_wp2_with fail
  go_loop [4] (fun i => ∃ k : Nat, k ≤ m ∧ i = .int .i64 k) (fun i => m - (intOf i).toNat)
  case atStart => exact ⟨0, by omega, rfl⟩
  case round =>
    obtain ⟨k, hk, rfl⟩ := hrel
    by_cases h : k < m
    · skip
      obtain ⟨b, o, rfl, _, hcell⟩ := rdI_row HR.out (by rw [HN.out]; omega)
      have c0 := hcell k (by rw [HN.out]; omega)
      have hb := HL1.out k h
      obtain ⟨c, hc⟩ : ∃ c, zat zs k = c := ⟨_, rfl⟩
      rw [hc] at c0 hb
      have hkn : k < n := by omega
      clear hcell hc
      go_wp2_with fail
      go_round
      case rel => exact ⟨k + 1, by omega, by go_num⟩
      case measure => simp [intOf]; omega
    · obtain rfl : k = m := by omega
      clear h hk
      by_cases hkn : k = n
      · obtain rfl : F = (0, 0) := by rw [← HD.out, if_pos (Or.inl hkn)]
        have hkn0 : ((k : Int) == (n : Int)) = true := by simp [hkn]
        have hkn1 : ¬ (k : Int) < (n : Int) := by omega
        have hkn2 : ¬ k < n := by omega
        clear hkn
        go_wp2_with fail
        go_ret2
        exact ⟨rfl, Below.refl _ _⟩
      · have hlt : k < n := by omega
        obtain ⟨b, o, rfl, _, hcell⟩ := rdI_row HR.out (by rw [HN.out]; omega)
        have c0 := hcell k (by rw [HN.out]; omega)
        have hb := HL2.out hlt
        obtain ⟨c, hc⟩ : ∃ c, zat zs k = c := ⟨_, rfl⟩
        rw [hc] at c0 hb
        have hnb : ¬ 128 ≤ c := by omega
        have hkn0 : ((k : Int) == (n : Int)) = false := by rw [beq_eq_false_iff_ne]; omega
        have HCE := Lib.hid hcell
        clear hcell hc
        by_cases h9 : 9 < k
        · obtain rfl : F = (0, 0) := by rw [← HD.out, if_pos (Or.inr h9)]
          go_wp2_with fail
          go_ret2
          exact ⟨rfl, Below.refl _ _⟩
        · have HD := HD.out
          rw [if_neg (by omega)] at HD
          have HD := Lib.hid HD
          obtain ⟨zt, hzt⟩ : ∃ zt, zs.take (k + 1) = zt := ⟨_, rfl⟩
          have HZT := Lib.hid hzt
          rw [hzt] at HD
          have hztl : zt.length = k + 1 := by rw [← hzt, List.length_take, HN.out]; omega
          have hzat : ∀ i, i < k + 1 → zat zt i = zat zs i := fun i hi => by rw [← hzt]; exact zat_take hi
          have HZL := Lib.hid hztl; have HZA := Lib.hid hzat
          clear hzt hztl hzat
          have h9' : ¬ (9 : Int) < (k : Int) := by omega
          go_wp2_with fail
          go_loop [5, 6] (fun a i => ∃ j : Nat, j ≤ k + 1 ∧ i = .int .i64 ((j : Int) - 1) ∧ a = .int .u64 ((valB (zt.drop j) % 18446744073709551616 : Nat) : Int)) (fun _ i => (intOf i + 1).toNat)
          case atStart => exact ⟨k + 1, by omega, by go_num, by rw [List.drop_eq_nil_of_le (by rw [HZL.out]; exact Nat.le_refl _)]; rfl⟩
          case round =>
            obtain ⟨j, hj, rfl, rfl⟩ := hrel
            rcases j with _ | j
            · rw [List.drop_zero]
              obtain ⟨u, hu⟩ : ∃ u, valB zt % 18446744073709551616 = u := ⟨_, rfl⟩
              have hul : u < 18446744073709551616 := by rw [← hu]; exact Nat.mod_lt _ (by decide)
              rw [hu] at HD ⊢
              clear hu
              go_wp2_with fail
              have hk1 : ((k : Int) + 1).toNat = k + 1 := by omega
              have hk2 : (k : Int) + 1 ≤ (cp : Int) := by omega
              have hk3 : (0 : Int) ≤ (k : Int) + 1 := by omega
              have hk4 : IntKind.i64.wrap ((k : Int) + 1) = (k : Int) + 1 := IntWalk.i64_in _ (by omega)
              have hzin : ∀ z, z ∈ zt → 0 ≤ z ∧ z < 256 := fun z hz => hin.out z (List.mem_of_mem_take (by rw [HZT.out]; exact hz))
              have hcmp := str_same (putB_in64 hul) hzin
              obtain ⟨s1, hs1⟩ : ∃ s, strOfNums (putB u) = s := ⟨_, rfl⟩
              obtain ⟨s2, hs2⟩ : ∃ s, strOfNums zt = s := ⟨_, rfl⟩
              rw [hs1, hs2] at hcmp
              have hput := putB_ten hul
              have CV : ∀ X, RdI X .u8 (some ⟨b, o, none⟩) zs → (convert 42 9 (.slice (some ⟨b, o, none⟩) (k + 1) cp)).run Try.prog X = .ok (.string s2) X := fun X hX => by
                have := conv_take (n := k + 1) (c := cp) hX (by rw [HN.out]; omega)
                rwa [HZT.out, hs2] at this
              obtain ⟨B, hB⟩ : ∃ B, decide (putB u = zt) = B := ⟨_, rfl⟩
              rw [hB] at hcmp
              have HB := Lib.hid hB
              clear hs2 hB hzin hb c0
              refine wp_region_held_drew (S := fun X : World => RdI X .u8 (some ⟨b, o, none⟩) zs) (by kernel_rfl) HR.out (fun hHeld => ?_)
              clear hHeld
              refine wpAnyH_take (i := 0) (v := ?_) rfl (by kernel_rfl) (by kernel_rfl) (by kernel_rfl) (fun _ _ _ h => h) (Or.inl ⟨by rfl, ?_⟩) HR.out ?_
              rotate_left
              · (intro wS hSw; (try dsimp only at hSw); go_simp; try with_reducible rfl)
              simp only [Act.put, List.getElem_toArray, List.getElem_cons_zero, List.getElem_cons_succ, List.setIfInBounds_toArray, List.set_cons_zero, List.set_cons_succ]
              refine wpAnyH_take (i := 3) (v := ?_) rfl (by kernel_rfl) (by kernel_rfl) (by kernel_rfl) (fun _ _ _ h => h) (Or.inl ⟨by rfl, ?_⟩) HR.out ?_
              rotate_left
              · (intro wS hSw; (try dsimp only at hSw); go_simp; try with_reducible rfl)
              simp only [Act.put, List.getElem_toArray, List.getElem_cons_zero, List.getElem_cons_succ, List.setIfInBounds_toArray, List.set_cons_zero, List.set_cons_succ]
              refine wpAnyH_take (i := 4) (v := ?_) rfl (by kernel_rfl) (by kernel_rfl) (by kernel_rfl) (fun _ _ _ h => h) (Or.inl ⟨by rfl, ?_⟩) HR.out ?_
              rotate_left
              · (intro wS hSw; (try dsimp only at hSw); go_simp; try with_reducible rfl)
              simp only [Act.put, List.getElem_toArray, List.getElem_cons_zero, List.getElem_cons_succ, List.setIfInBounds_toArray, List.set_cons_zero, List.set_cons_succ]
              refine wpAnyH_take (i := 5) (v := ?_) rfl (by kernel_rfl) (by kernel_rfl) (by kernel_rfl) (fun _ _ _ h => h) (Or.inl ⟨by rfl, ?_⟩) HR.out ?_
              rotate_left
              · (intro wS hSw; (try dsimp only at hSw); go_simp; try with_reducible rfl)
              simp only [Act.put, List.getElem_toArray, List.getElem_cons_zero, List.getElem_cons_succ, List.setIfInBounds_toArray, List.set_cons_zero, List.set_cons_succ]
              refine wpAnyH_take (i := 6) (v := ?_) rfl (by kernel_rfl) (by kernel_rfl) (by kernel_rfl) (fun _ _ _ h => h) (Or.inl ⟨by rfl, ?_⟩) HR.out ?_
              rotate_left
              · (intro wS hSw; (try dsimp only at hSw); go_simp; try with_reducible rfl)
              simp only [Act.put, List.getElem_toArray, List.getElem_cons_zero, List.getElem_cons_succ, List.setIfInBounds_toArray, List.set_cons_zero, List.set_cons_succ]
              refine wpAnyH_take (i := 7) (v := ?_) rfl (by kernel_rfl) (by kernel_rfl) (by kernel_rfl) (fun _ _ _ h => h) (Or.inl ⟨by rfl, ?_⟩) HR.out ?_
              rotate_left
              · (intro wS hSw; (try dsimp only at hSw); have cv := CV wS hSw; go_simp; try with_reducible rfl)
              simp only [Act.put, List.getElem_toArray, List.getElem_cons_zero, List.getElem_cons_succ, List.setIfInBounds_toArray, List.set_cons_zero, List.set_cons_succ]
              refine wpAnyH_ready (rs := [1]) (by kernel_rfl) (by simp) ?_
              refine AllReadyH.cons rfl (fun K hK => ?_) AllReadyH.nil
              go_simp
              refine (dput_any u _ hul).mono ?_
              rintro e r1 ⟨v', rfl, how, hbl⟩
              obtain ⟨A', c', rfl, hrd⟩ := owB_rd how (putB_in64 hul)
              have hS1 := Lib.hid (RdI.kept (w := w.drew) HR.out hbl)
              obtain ⟨b', o', rfl, _, _⟩ := rdI_row hrd (by omega)
              have cv2 := conv_take (n := (putB u).length) (c := c') hrd (Nat.le_refl _)
              rw [List.take_of_length_le (Nat.le_refl _), hs1] at cv2
              obtain ⟨l, hl⟩ : ∃ l, (putB u).length = l := ⟨_, rfl⟩
              rw [hl] at cv2 ⊢
              have HBL : Hid (Below w.heap.size w r1) := Lib.hid ((Below.refl w.heap.size w).drew.trans hbl)
              clear how hrd hl hbl
              go_wp2_with fail
              refine hK.out _ _ hS1.out (fun hHeld => ?_)
              clear hK K hHeld
              try simp only [Act.put, List.getElem_toArray, List.getElem_cons_zero, List.getElem_cons_succ, List.setIfInBounds_toArray, List.set_cons_zero, List.set_cons_succ]
              refine wpAnyH_ready (rs := [2]) (by kernel_rfl) (by simp) ?_
              refine AllReadyH.cons rfl (fun K hK => ?_) AllReadyH.nil
              go_simp
              refine hK.out _ _ hS1.out (fun hHeld => ?_)
              clear hK K hHeld
              try simp only [Act.put, List.getElem_toArray, List.getElem_cons_zero, List.getElem_cons_succ, List.setIfInBounds_toArray, List.set_cons_zero, List.set_cons_succ]
              refine wpAnyH_take (i := 8) (v := ?_) rfl (by kernel_rfl) (by kernel_rfl) (by kernel_rfl) (fun _ _ _ h => h) (Or.inl ⟨by rfl, ?_⟩) hS1.out ?_
              rotate_left
              · (intro wS hSw; (try dsimp only at hSw); go_simp; try with_reducible rfl)
              simp only [Act.put, List.getElem_toArray, List.getElem_cons_zero, List.getElem_cons_succ, List.setIfInBounds_toArray, List.set_cons_zero, List.set_cons_succ]
              refine wpAnyH_done (by kernel_rfl) ?_ _
              cases B
              · obtain rfl : F = (0, 0) := by rw [← HD.out, if_neg (of_decide_eq_false HB.out)]
                go_wp2_with fail
                go_ret2
                exact ⟨rfl, HBL.out⟩
              · obtain rfl : F = (u, k + 1) := by rw [← HD.out, if_pos (of_decide_eq_true HB.out)]
                go_wp2_with fail
                go_ret2
                exact ⟨rfl, HBL.out⟩
            · have e1 : ((j + 1 : Nat) : Int) - 1 = (j : Int) := by omega
              rw [e1]
              have d0 := HCE.out j (by rw [HN.out]; omega)
              have hbz := hin.out (zat zs j) (by unfold zat; rw [List.getD_eq_getElem?_getD, List.getElem?_eq_getElem (by rw [HN.out]; omega)]; exact List.getElem_mem _)
              obtain ⟨v, hv⟩ : ∃ v, valB (zt.drop (j + 1)) = v := ⟨_, rfl⟩
              have hdz : zt.drop j = zat zs j :: zt.drop (j + 1) := by rw [drop_zat (by rw [HZL.out]; omega), HZA.out j (by omega)]
              obtain ⟨d, hd⟩ : ∃ d : Nat, zat zs j = (d : Int) := ⟨(zat zs j).toNat, by omega⟩
              rw [hd] at d0 hbz hdz
              rw [hv]
              obtain ⟨q, hq⟩ : ∃ q, d % 128 = q := ⟨_, rfl⟩
              obtain ⟨p, hp⟩ : ∃ p, v % 18446744073709551616 = p := ⟨_, rfl⟩
              rw [hp]
              have t1 : ((d : Int)).tmod 128 = (q : Int) := by rw [Int.tmod_eq_emod_of_nonneg (by omega)]; omega
              have hq1 : q < 128 := by omega
              have hp1 : p < 18446744073709551616 := by omega
              have w8 : IntKind.u8.wrap (q : Int) = q := by rw [IntKind.wrap_u8]; omega
              have w64 : IntKind.u64.wrap (q : Int) = q := by rw [IntKind.wrap_u64]; omega
              obtain ⟨s, hs⟩ : ∃ s : Nat, IntKind.u64.wrap (128 * (p : Int)) = (s : Int) := ⟨(128 * p) % 18446744073709551616, by rw [IntKind.wrap_u64]; omega⟩
              have hs1 : s = (128 * p) % 18446744073709551616 := by rw [IntKind.wrap_u64] at hs; omega
              have hs2 : IntKind.u64.wrap ((s : Int) + (q : Int)) = ((valB (zt.drop j) % 18446744073709551616 : Nat) : Int) := by
                rw [hdz]
                simp only [valB, hv]
                have : ((d : Int) % 128).toNat = q := by omega
                rw [this, IntKind.wrap_u64]
                omega
              clear hdz hd hq hp hs1 hv e1
              go_wp2_with fail
              go_round
              case rel => exact ⟨j, by omega, by go_num, by first | rfl | go_num⟩
              case measure => simp [intOf]
set_option maxRecDepth 100000 in
set_option maxHeartbeats 1000000 in
theorem dfail_any (g : Nat) (v : Value) (bad : Bool) (w : World) (h : Blk w g 60 #[v, .bool bad]) :
    Calls Try.prog 58 #[.pointer (some ⟨g, 0, none⟩)] w fun e w' => e = .returned (.int .u64 0) ∧ w' = (w.setCell ⟨g, 0, none⟩ (.slice none 0 0)).setCell ⟨g, 1, none⟩ (.bool true) := by
  obtain ⟨k0, k1, j0, j1⟩ := h.two
  clear h
  go_enter Try.func58, Try.ntmps58
  go_wp2_with fail
  go_ret
  exact ⟨rfl, rfl⟩
set_option maxRecDepth 100000 in
set_option maxHeartbeats 4000000 in
theorem drnum_any (g : Nat) (zs : List Int) (bad : Bool) (w0 w : World) (hs : RS w0 w g 60 zs bad) (hB : Below w0.heap.size w0 w) (hl : zs.length ≤ 1000000) :
    Calls Try.prog 46 #[.pointer (some ⟨g, 0, none⟩)] w fun e w' => e = .returned (.int .u64 ((numB zs).1 : Nat)) ∧ RS w0 w' g 60 (nextB zs) (bad || isBad zs) ∧ Upd g w w' := by
  obtain ⟨A, c, hb, hr, hc1, hc2⟩ := hs
  have K := Lib.hid (dnum_any A c zs w (RdI.kept hr hB) hl hc1 hc2)
  have HR := Lib.hid hr
  have HBd := Lib.hid (numB_bd zs)
  obtain ⟨k0, k1, j0, j1⟩ := hb.two
  have HB := Lib.hid hb
  clear hb hr hB
  obtain ⟨m, hm⟩ : ∃ m, (numB zs).1 = m := ⟨_, rfl⟩
  obtain ⟨k, hk⟩ : ∃ k, (numB zs).2 = k := ⟨_, rfl⟩
  have HK := Lib.hid hk
  have HM := Lib.hid hm
  obtain ⟨b1, b2, b3, b4⟩ := HBd.out
  rw [hm] at b1 b4 K ⊢
  rw [hk] at b2 b3 b4 K
  clear hk hm
  obtain ⟨n, hn⟩ : ∃ n, zs.length = n := ⟨_, rfl⟩
  have HN := Lib.hid hn
  rw [hn] at hl hc1 b2 K k0 HB
  clear hn
  have hM : maxLen ≤ 9223372036854775807 := by decide
  by_cases hz : k = 0
  · have e1 : nextB zs = [] := by unfold nextB; rw [if_pos (HK.out.trans hz)]
    have e2 : (bad || isBad zs) = true := by unfold isBad; rw [HK.out, hz]; simp
    have e3 : m = 0 := b4 hz
    rw [e1, e2]
    clear e1 e2 b4
    subst hz e3
    go_enter Try.func46, Try.ntmps46
    go_wp2_with fail
    refine K.out.mono ?_
    rintro e w1 ⟨rfl, hb1⟩
    have HB1 := Lib.hid (Blk.next (w := w) HB.out hb1)
    have HG := Lib.hid hb1
    clear k0 k1 j0 j1 hb1
    obtain ⟨k0, k1, j0, j1⟩ := HB1.out.two
    go_wp2_with fail
    refine (dfail_any g _ bad _ HB1.out).mono ?_
    rintro e w2 ⟨rfl, rfl⟩
    go_wp2_with fail
    go_ret
    exact ⟨rfl, ⟨none, 0, (Blk.put2 HB1.out _ _), fun i hi => absurd hi (by simp), by simp, by simp [maxLen]⟩, upd_two HG.out _ _⟩
  · have e1 : nextB zs = zs.drop k := by unfold nextB; rw [if_neg (by rw [HK.out]; exact hz), HK.out]
    have e2 : (bad || isBad zs) = bad := by unfold isBad; rw [HK.out]; simp [hz]
    rw [e1, e2]
    clear e1 e2 b4
    obtain ⟨b, o, rfl, _, _⟩ := rdI_row HR.out (by rw [HN.out]; omega)
    have hz0 : ((k : Int) == 0) = false := by rw [beq_eq_false_iff_ne]; omega
    have hkn : (k : Int) ≤ (n : Int) := by omega
    by_cases hkc : k < c
    · skip
      have hkc1 : (k : Int) < (c : Int) := by omega
      go_enter Try.func46, Try.ntmps46
      go_wp2_with fail
      refine K.out.mono ?_
      rintro e w1 ⟨rfl, hb1⟩
      have HB1 := Lib.hid (Blk.next (w := w) HB.out hb1)
      have HG := Lib.hid hb1
      clear k0 k1 j0 j1 hb1
      obtain ⟨k0, k1, j0, j1⟩ := HB1.out.two
      go_wp2_with fail
      go_ret
      refine ⟨rfl, ⟨some ⟨b, o + k, none⟩, c - k, ?_, rdI_drop HR.out k, by rw [List.length_drop, HN.out]; omega, by omega⟩, upd_one HG.out _⟩
      have := HB1.out.set 0 (.slice (some ⟨b, o + k, none⟩) (n - k) (c - k))
      rw [List.length_drop, HN.out]
      exact this
    · obtain rfl : k = c := by omega
      obtain rfl : k = n := by omega
      clear hkc
      have e0 : zs.drop k = [] := List.drop_eq_nil_of_le (by rw [HN.out]; exact Nat.le_refl _)
      rw [e0]
      go_enter Try.func46, Try.ntmps46
      go_wp2_with fail
      refine K.out.mono ?_
      rintro e w1 ⟨rfl, hb1⟩
      have HB1 := Lib.hid (Blk.next (w := w) HB.out hb1)
      have HG := Lib.hid hb1
      clear k0 k1 j0 j1 hb1
      obtain ⟨k0, k1, j0, j1⟩ := HB1.out.two
      go_wp2_with fail
      go_ret
      refine ⟨rfl, ⟨some ⟨b, o, none⟩, 0, ?_, fun i hi => absurd hi (by simp), by simp, by simp [maxLen]⟩, upd_one HG.out _⟩
      have := HB1.out.set 0 (.slice (some ⟨b, o, none⟩) 0 0)
      exact this
set_option maxRecDepth 100000 in
set_option maxHeartbeats 4000000 in
theorem drtext_any (g : Nat) (zs : List Int) (bad : Bool) (w0 w : World) (hs : RS w0 w g 60 zs bad) (hB : Below w0.heap.size w0 w) (hg : w0.heap.size ≤ g) (hl : zs.length ≤ 1000000) :
    Calls Try.prog 48 #[.pointer (some ⟨g, 0, none⟩)] w fun e w' => e = .returned (.string (textV zs)) ∧ RS w0 w' g 60 (textN zs) (bad || textBad zs) ∧ Upd g w w' := by
  have K := Lib.hid (drnum_any g zs bad w0 w hs hB hl)
  have hu := (numB_bd zs).1
  have hnl := nextB_le zs
  unfold textV textN textBad
  obtain ⟨m, hm⟩ : ∃ m, (numB zs).1 = m := ⟨_, rfl⟩
  rw [hm] at K hu ⊢
  obtain ⟨ys, hy⟩ : ∃ ys, nextB zs = ys := ⟨_, rfl⟩
  rw [hy] at K hnl ⊢
  obtain ⟨bb, hbb⟩ : ∃ bb, (bad || isBad zs) = bb := ⟨_, rfl⟩
  rw [← Bool.or_assoc, hbb]
  rw [hbb] at K
  have HB0 := Lib.hid hB
  obtain ⟨n, hn⟩ : ∃ n, ys.length = n := ⟨_, rfl⟩
  have HN := Lib.hid hn
  rw [hn] at hnl ⊢
  clear hs hB hm hy hbb hn
  have hM : maxLen ≤ 9223372036854775807 := by decide
  by_cases hlt : n < m
  · rw [if_pos hlt, if_pos hlt, decide_eq_true hlt]
    go_enter Try.func48, Try.ntmps48
    go_wp2_with fail
    refine K.out.mono ?_
    rintro e w1 ⟨rfl, h1, h2⟩
    obtain ⟨A, c, hb, hr, hc1, hc2⟩ := h1
    have HB := Lib.hid hb
    obtain ⟨k0, k1, j0, j1⟩ := hb.two
    rw [HN.out] at k0
    clear hb
    have wc : IntKind.u64.wrap (n : Int) = n := by rw [IntKind.wrap_u64]; omega
    go_wp2_with fail
    refine (dfail_any g _ _ _ HB.out).mono ?_
    rintro e w2 ⟨rfl, rfl⟩
    go_wp2_with fail
    go_ret
    exact ⟨rfl, ⟨none, 0, by simpa using Blk.put2 HB.out (.slice none 0 0) (.bool true), fun i hi => absurd hi (by simp), by simp, by simp [maxLen]⟩, h2.trans (upd_two (Below.refl _ _) _ _)⟩
  · rw [if_neg hlt, if_neg hlt, decide_eq_false hlt, Bool.or_false]
    go_enter Try.func48, Try.ntmps48
    go_wp2_with fail
    refine K.out.mono ?_
    rintro e w1 ⟨rfl, h1, h2⟩
    obtain ⟨A, c, hb, hr, hc1, hc2⟩ := h1
    have hB1 := upd_below HB0.out hg h2
    have HB := Lib.hid hb
    obtain ⟨k0, k1, j0, j1⟩ := hb.two
    rw [HN.out] at k0 hc1
    clear hb
    have wc : IntKind.u64.wrap (n : Int) = n := by rw [IntKind.wrap_u64]; omega
    have q1 : (m : Int) ≤ (n : Int) := by omega
    have wm : IntKind.i64.wrap (m : Int) = m := IntWalk.i64_in _ (by omega)
    by_cases h0 : n = 0
    · subst h0
      obtain rfl : m = 0 := by omega
      obtain rfl : ys = [] := List.eq_nil_of_length_eq_zero HN.out
      cases A with
      | none =>
        have cv := conv_nil w1 0 c
        have cv0 := conv_nil w1 0 0
        rcases Nat.eq_zero_or_pos c with rfl | hcp
        all_goals (
          go_wp2_with fail
          go_ret
          refine ⟨rfl, ⟨_, _, Blk.set HB.out 0 _, fun i hi => absurd hi (by simp), by simp <;> omega, by simp [maxLen] <;> omega⟩, h2.trans (upd_one (Below.refl _ _) _)⟩)
      | some a =>
        have cv := conv_zero w1 a c
        rcases Nat.eq_zero_or_pos c with rfl | hcp
        all_goals (
          go_wp2_with fail
          go_ret
          refine ⟨rfl, ⟨_, _, Blk.set HB.out 0 _, fun i hi => absurd hi (by simp), by simp <;> omega, by simp [maxLen] <;> omega⟩, h2.trans (upd_one (Below.refl _ _) _)⟩)
    · obtain ⟨b, o, rfl, _, _⟩ := rdI_row hr (by rw [HN.out]; omega)
      have cv := conv_take (n := m) (c := c) (RdI.kept hr hB1) (by rw [HN.out]; omega)
      have HR := Lib.hid hr
      clear hr hB1
      by_cases hmc : m < c
      · have hmc1 : (m : Int) < (c : Int) := by omega
        go_wp2_with fail
        go_ret
        refine ⟨rfl, ⟨some ⟨b, o + m, none⟩, c - m, ?_, rdI_drop HR.out m, by rw [List.length_drop, HN.out]; omega, by omega⟩, h2.trans (upd_one (Below.refl _ _) _)⟩
        have := Blk.set HB.out 0 (.slice (some ⟨b, o + m, none⟩) (n - m) (c - m))
        rw [List.length_drop, HN.out]
        exact this
      · obtain rfl : m = c := by omega
        obtain rfl : m = n := by omega
        clear hmc
        have e0 : ys.drop m = [] := List.drop_eq_nil_of_le (by rw [HN.out]; exact Nat.le_refl _)
        go_wp2_with fail
        go_ret
        rw [e0]
        refine ⟨rfl, ⟨some ⟨b, o, none⟩, 0, ?_, fun i hi => absurd hi (by simp), by simp, by simp [maxLen]⟩, h2.trans (upd_one (Below.refl _ _) _)⟩
        have := Blk.set HB.out 0 (.slice (some ⟨b, o, none⟩) 0 0)
        exact this
end Go.Proofs.Ytnjdeikikdieoab
