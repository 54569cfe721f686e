/- Columns: the document's line. -/
import Derived.Test.YtkonghjmipclmaaDoorRows
import Derived.Test.YtkonghjmipclmaaDoorRowKit
import Derived.Test.YtkonghjmipclmaaDoorShelf
import Derived.Test.YtkonghjmipclmaaDoorBlocks
import Derived.Test.YtkonghjmipclmaaDoorSlicesEq
import Derived.Test.YtkonghjmipclmaaDoorRowT
import Derived.Test.YtkonghjmipclmaaDoorDigE
import Derived.Test.YtkonghjmipclmaaDoorBuA
import Derived.Test.YtkonghjmipclmaaDoorColM
import Derived.Test.YtkonghjmipclmaaDoorAtKit
import Derived.Test.YtkonghjmipclmaaDoorColA
import Derived.Test.YtkonghjmipclmaaDoorColD
import Derived.WalkKit
import Derived.IntWalk
import Derived.Lib.Hide
import Derived.WalkSpells
import Derived.WalkLawsBesides
import Derived.Laws.IdiomStrings
import Derived.Laws.OwnMore
import Derived.OwnWalk
import Derived.Deep.QuietTactic
import Derived.BigQuiet
import Derived.BigRegion
import Derived.Deep.LoopGhost
namespace Go.Proofs.YtkonghjmipclmaaDoor
open Go.RowKit Go.Sort
set_option linter.unusedSimpArgs false
set_option linter.unusedVariables false
theorem blanks_bel (n : Int) (w : World) (h0 : -100000 ≤ n) (h1 : n ≤ 100000) :
    Calls Tryd.prog 36 #[.int .i64 n] w fun e w' => e = .returned (.string (blC n.toNat)) ∧ Below w.heap.size w w' :=
  (blanks_any n w h0 h1).mono fun e w' h => ⟨h.1, by rw [h.2]; exact Below.refl _ _⟩
theorem cut_last (T : List UInt8) (d : Nat) : (bL (T ++ List.replicate (d + 1) 32)).extract 0 (T.length + d) = bL (T ++ List.replicate d 32) := by
  unfold bL
  apply ByteArray.ext
  apply Array.ext'
  simp [List.replicate_succ', List.take_append, List.take_of_length_le]
theorem at_last (T : List UInt8) (d : Nat) : (bL (T ++ List.replicate (d + 1) 32)).data.toList[T.length + d]? = some 32 := by
  show (T ++ List.replicate (d + 1) 32).toArray.toList[T.length + d]? = some 32
  simp [List.getElem?_append_right]
theorem ix_of (s : ByteArray) (k : Nat) (x : UInt8) (hL : s.data.toList[k]? = some x) (h : k < s.size) : (s[k]'h).toNat = x.toNat := by
  have hk : k < s.data.toList.length := h
  rw [List.getElem?_eq_getElem hk] at hL
  injection hL with hL
  rw [← hL]; rfl
set_option maxRecDepth 100000 in
set_option maxHeartbeats 40000000 in
theorem dline_any (A W : Option Addr) (ca cw n nw : Nat) (tb : Nat → ByteArray) (ws : List Int) (w : World) (hn : ws.length = nw) (h30 : n ≤ 30) (hnw : nw ≤ 1000) (hA : RdT w A n tb) (hW : RdI w .i64 W ws) (hsz : ∀ i, i < n → (tb i).size ≤ 60) (hw : ∀ j, j < nw → 0 ≤ zat ws j ∧ zat ws j ≤ 1000) :
    Calls Tryd.prog 22 #[.slice W nw cw, .slice A n ca] w fun e w' => e = .returned (.string (bL (lnC (zat ws) nw (byC tb) n))) ∧ Below w.heap.size w w' := by
  have HA := Lib.hid hA; have HSZ := Lib.hid hsz; have HWW := Lib.hid hW; have HWB := Lib.hid hw; have HWN := Lib.hid hn
  have HFL : Hid (∀ k, k ≤ n → (fuC (zat ws) nw (byC tb) k).length ≤ 33000) := Lib.hid (fun k hk => by
    have := fuC_len (wd := zat ws) (nw := nw) (t := byC tb) k (fun i hi => ⟨by rw [byC_len]; exact hsz i (by omega), by
      unfold lkC
      split
      · rename_i h; have := hw i h; omega
      · omega⟩)
    omega)
  obtain ⟨R, hR⟩ : ∃ R : Ending → World → Prop, (fun (e : Ending) (w' : World) => e = .returned (.string (bL (lnC (zat ws) nw (byC tb) n))) ∧ Below w.heap.size w w') = R := ⟨_, rfl⟩
  have HRR := Lib.hid hR
  rw [hR]
  have EE := Lib.hid (Below.refl w.heap.size w)
  clear hA hW hsz hw hR hn
  go_enter Tryd.func22, Tryd.ntmps22
  go_wp2_with fail
  go_loopg [5, 6] n (fun gh sv iv wr => ∃ (k : Nat) (t : ByteArray), k ≤ n ∧ gh = n - k ∧ sv = .string t ∧ iv = .int .i64 k ∧ Hid (t = bL (fuC (zat ws) nw (byC tb) k)) ∧ Hid (Below w.heap.size w wr))
  case atStart => exact ⟨0, ByteArray.mk #[], Nat.zero_le _, rfl, rfl, rfl, Lib.hid rfl, EE⟩
  case round =>
    clear EE
    obtain ⟨k, t, hk, rfl, rfl, rfl, HT, EE⟩ := hrel
    rename World => V
    by_cases hkn : k < n
    · have hki : (k : Int) < (n : Int) := by omega
      obtain ⟨ba, oa, rfl, hlta, hca⟩ := rdT_row HA.out (by omega)
      have c0 := (EE.out.cell (p := ⟨ba, oa + k, none⟩) hlta).trans (hca k hkn)
      have hlk := HSZ.out k hkn
      have hts : t.size ≤ 33000 := by rw [HT.out, bL_size]; exact HFL.out k hk
      obtain ⟨s, hs⟩ : ∃ s, tb k = s := ⟨_, rfl⟩
      rw [hs] at c0 hlk
      have HS := Lib.hid hs
      clear hs hca
      by_cases hk0 : k = 0
      · have HK0 := Lib.hid hk0
        have hke : ((k : Int) == 0) = true := by rw [beq_iff_eq]; omega
        clear hk0
        by_cases hkw : k < nw
        · have hkwi : (k : Int) < (nw : Int) := by omega
          obtain ⟨bw, ow, rfl, hltw, hcw⟩ := rdI_row HWW.out (by have := HWN.out; omega)
          have c1 : V.cell? ⟨bw, ow + k, none⟩ = some (.int .i64 (zat ws k)) := (EE.out.cell (p := ⟨bw, ow + k, none⟩) hltw).trans (hcw k (by have := HWN.out; omega))
          have hx := HWB.out k hkw
          obtain ⟨x, hxw⟩ : ∃ x, zat ws k = x := ⟨_, rfl⟩
          rw [hxw] at c1 hx
          have HXW := Lib.hid hxw
          clear hxw hcw hltw
          obtain ⟨d, hd⟩ : ∃ d : Int, x - (s.size : Int) = d := ⟨_, rfl⟩
          have D1 : Hid (IntKind.i64.wrap (x - (s.size : Int)) = d) := Lib.hid (by rw [IntWalk.i64_in _ (by omega)]; exact hd)
          have D2 : Hid (wrap64 (x - (s.size : Int)) = d) := Lib.hid (by rw [IntWalk.wrap64_in _ (by omega)]; exact hd)
          have hlk : lkC (zat ws) nw (byC tb) k = d.toNat := by
            unfold lkC
            rw [if_pos hkw, byC_len, HS.out, HXW.out, hd]
          have KB := Lib.hid (fun V : World => blanks_bel d V (by omega) (by omega))
          have hbs : (blC d.toNat).size = d.toNat := blC_size _
          have hdl : d.toNat ≤ 1000 := by omega
          have HN : Hid (t ++ (s ++ blC d.toNat) = bL (fuC (zat ws) nw (byC tb) (k + 1))) := Lib.hid (by
            have e : fuC (zat ws) nw (byC tb) (k + 1) = byC tb 0 ++ List.replicate d.toNat 32 := by rw [HK0.out, fuC_one, ← hlk, HK0.out]
            rw [e, HT.out, ← HS.out, HK0.out, byC_eq tb 0]
            unfold blC bL byC fuC
            apply ByteArray.ext; apply Array.ext'; simp)
          obtain ⟨bB, hbB⟩ : ∃ bB, blC d.toNat = bB := ⟨_, rfl⟩
          rw [hbB] at KB hbs HN
          have hB1 : bB.size ≤ 1000 := by omega
          clear hlk hbB hbs hdl hd
          have y1 : ¬ 9223372036854775807 < s.size + bB.size := by omega
          have y2 : ¬ 9223372036854775807 < t.size + (s.size + bB.size) := by omega
          have y3 : ¬ 9223372036854775807 < t.size + (s ++ bB).size := by rw [ByteArray.size_append]; omega
          have HX := Lib.hid (at1 c0)
          clear c0
          have kX0 : V.cell? ⟨ba, oa + k, none⟩ = some (.string s) := HX.out 0 _ rfl
          go_wp2_with fail
          have d1 := D1.out; have d2 := D2.out
          have sK : ∀ X, At X ba (oa + k) #[.string s] → (fun X => X.cell? ⟨ba, oa + k, none⟩ = some (.string s)) X := fun X hX => hX 0 _ rfl
          have LX0 := Lib.hid (HX.out.drew)
          have E0 := Lib.hid (EE.out.drew)
          clear kX0
          refine wp_region_held_drew (S := (fun X => X.cell? ⟨ba, oa + k, none⟩ = some (.string s))) (by kernel_rfl) (sK _ LX0.out) (fun hHeld => ?_)
          clear hHeld
          refine wpAnyH_take (i := 0) (v := ?_) rfl (by kernel_rfl) (by kernel_rfl) (by kernel_rfl) (fun _ _ _ h => h) (Or.inl ⟨by rfl, ?_⟩) (sK _ LX0.out) ?_
          rotate_left
          · (intro wS hSw; (try dsimp only at hSw); go_simp; try with_reducible rfl)
          simp only [Act.put, List.getElem_toArray, List.getElem_cons_zero, List.getElem_cons_succ, List.setIfInBounds_toArray, List.set_cons_zero, List.set_cons_succ]
          refine wpAnyH_take (i := 1) (v := ?_) rfl (by kernel_rfl) (by kernel_rfl) (by kernel_rfl) (fun _ _ _ h => h) (Or.inl ⟨by rfl, ?_⟩) (sK _ LX0.out) ?_
          rotate_left
          · (intro wS hSw; (try dsimp only at hSw); go_simp; try with_reducible rfl)
          simp only [Act.put, List.getElem_toArray, List.getElem_cons_zero, List.getElem_cons_succ, List.setIfInBounds_toArray, List.set_cons_zero, List.set_cons_succ]
          refine wpAnyH_take (i := 2) (v := ?_) rfl (by kernel_rfl) (by kernel_rfl) (by kernel_rfl) (fun _ _ _ h => h) (Or.inl ⟨by rfl, ?_⟩) (sK _ LX0.out) ?_
          rotate_left
          · (intro wS hSw; (try dsimp only at hSw); go_simp; try with_reducible rfl)
          simp only [Act.put, List.getElem_toArray, List.getElem_cons_zero, List.getElem_cons_succ, List.setIfInBounds_toArray, List.set_cons_zero, List.set_cons_succ]
          refine wpAnyH_take (i := 3) (v := ?_) rfl (by kernel_rfl) (by kernel_rfl) (by kernel_rfl) (fun _ _ _ h => h) (Or.inl ⟨by rfl, ?_⟩) (sK _ LX0.out) ?_
          rotate_left
          · (intro wS hSw; (try dsimp only at hSw); go_simp; try with_reducible rfl)
          simp only [Act.put, List.getElem_toArray, List.getElem_cons_zero, List.getElem_cons_succ, List.setIfInBounds_toArray, List.set_cons_zero, List.set_cons_succ]
          refine wpAnyH_take (i := 4) (v := ?_) rfl (by kernel_rfl) (by kernel_rfl) (by kernel_rfl) (fun _ _ _ h => h) (Or.inl ⟨by rfl, ?_⟩) (sK _ LX0.out) ?_
          rotate_left
          · (intro wS hSw; (try dsimp only at hSw); go_simp; try with_reducible rfl)
          simp only [Act.put, List.getElem_toArray, List.getElem_cons_zero, List.getElem_cons_succ, List.setIfInBounds_toArray, List.set_cons_zero, List.set_cons_succ]
          refine wpAnyH_take (i := 5) (v := ?_) rfl (by kernel_rfl) (by kernel_rfl) (by kernel_rfl) (fun _ _ _ h => h) (Or.inl ⟨by rfl, ?_⟩) (sK _ LX0.out) ?_
          rotate_left
          · (intro wS hSw; (try dsimp only at hSw); go_simp; try with_reducible rfl)
          simp only [Act.put, List.getElem_toArray, List.getElem_cons_zero, List.getElem_cons_succ, List.setIfInBounds_toArray, List.set_cons_zero, List.set_cons_succ]
          refine wpAnyH_take (i := 6) (v := ?_) rfl (by kernel_rfl) (by kernel_rfl) (by kernel_rfl) (fun _ _ _ h => h) (Or.inl ⟨by rfl, ?_⟩) (sK _ LX0.out) ?_
          rotate_left
          · (intro wS hSw; (try dsimp only at hSw); go_simp; try with_reducible rfl)
          simp only [Act.put, List.getElem_toArray, List.getElem_cons_zero, List.getElem_cons_succ, List.setIfInBounds_toArray, List.set_cons_zero, List.set_cons_succ]
          refine wpAnyH_take (i := 7) (v := ?_) rfl (by kernel_rfl) (by kernel_rfl) (by kernel_rfl) (fun _ _ _ h => h) (Or.inl ⟨by rfl, ?_⟩) (sK _ LX0.out) ?_
          rotate_left
          · (intro wS hSw; (try dsimp only at hSw); go_simp; try with_reducible rfl)
          simp only [Act.put, List.getElem_toArray, List.getElem_cons_zero, List.getElem_cons_succ, List.setIfInBounds_toArray, List.set_cons_zero, List.set_cons_succ]
          refine wpAnyH_take (i := 8) (v := ?_) rfl (by kernel_rfl) (by kernel_rfl) (by kernel_rfl) (fun _ _ _ h => h) (Or.inl ⟨by rfl, ?_⟩) (sK _ LX0.out) ?_
          rotate_left
          · (intro wS hSw; (try dsimp only at hSw); go_simp; try with_reducible rfl)
          simp only [Act.put, List.getElem_toArray, List.getElem_cons_zero, List.getElem_cons_succ, List.setIfInBounds_toArray, List.set_cons_zero, List.set_cons_succ]
          refine wpAnyH_take (i := 9) (v := ?_) rfl (by kernel_rfl) (by kernel_rfl) (by kernel_rfl) (fun _ _ _ h => h) (Or.inl ⟨by rfl, ?_⟩) (sK _ LX0.out) ?_
          rotate_left
          · (intro wS hSw; (try dsimp only at hSw); go_simp; try with_reducible rfl)
          simp only [Act.put, List.getElem_toArray, List.getElem_cons_zero, List.getElem_cons_succ, List.setIfInBounds_toArray, List.set_cons_zero, List.set_cons_succ]
          refine wpAnyH_take (i := 10) (v := ?_) rfl (by kernel_rfl) (by kernel_rfl) (by kernel_rfl) (fun _ _ _ h => h) (Or.inl ⟨by rfl, ?_⟩) (sK _ LX0.out) ?_
          rotate_left
          · (intro wS hSw; (try dsimp only at hSw); go_simp; try with_reducible rfl)
          simp only [Act.put, List.getElem_toArray, List.getElem_cons_zero, List.getElem_cons_succ, List.setIfInBounds_toArray, List.set_cons_zero, List.set_cons_succ]
          refine wpAnyH_take (i := 11) (v := ?_) rfl (by kernel_rfl) (by kernel_rfl) (by kernel_rfl) (fun _ _ _ h => h) (Or.inl ⟨by rfl, ?_⟩) (sK _ LX0.out) ?_
          rotate_left
          · (intro wS hSw; (try dsimp only at hSw); go_simp; try with_reducible rfl)
          simp only [Act.put, List.getElem_toArray, List.getElem_cons_zero, List.getElem_cons_succ, List.setIfInBounds_toArray, List.set_cons_zero, List.set_cons_succ]
          refine wpAnyH_ready (rs := [12]) (by kernel_rfl) (by simp) ?_
          refine AllReadyH.cons rfl (fun K hK => ?_) AllReadyH.nil
          go_simp
          refine (KB.out _).mono ?_
          rintro e r1 ⟨rfl, hb⟩
          have LX1 := Lib.hid (At.next (w := V.drew) LX0.out hb)
          have E1 := Lib.hid (E0.out.trans (hb.mono E0.out.size))
          clear hb
          go_wp2_with fail
          refine hK.out _ _ (sK _ LX1.out) (fun hHeld => ?_)
          clear hK K hHeld
          try simp only [Act.put, List.getElem_toArray, List.getElem_cons_zero, List.getElem_cons_succ, List.setIfInBounds_toArray, List.set_cons_zero, List.set_cons_succ]
          refine wpAnyH_take (i := 13) (v := ?_) rfl (by kernel_rfl) (by kernel_rfl) (by kernel_rfl) (fun _ _ _ h => h) (Or.inl ⟨by rfl, ?_⟩) (sK _ LX1.out) ?_
          rotate_left
          · (intro wS hSw; (try dsimp only at hSw); go_simp; try with_reducible rfl)
          simp only [Act.put, List.getElem_toArray, List.getElem_cons_zero, List.getElem_cons_succ, List.setIfInBounds_toArray, List.set_cons_zero, List.set_cons_succ]
          refine wpAnyH_take (i := 14) (v := ?_) rfl (by kernel_rfl) (by kernel_rfl) (by kernel_rfl) (fun _ _ _ h => h) (Or.inl ⟨by rfl, ?_⟩) (sK _ LX1.out) ?_
          rotate_left
          · (intro wS hSw; (try dsimp only at hSw); go_simp; try with_reducible rfl)
          simp only [Act.put, List.getElem_toArray, List.getElem_cons_zero, List.getElem_cons_succ, List.setIfInBounds_toArray, List.set_cons_zero, List.set_cons_succ]
          refine wpAnyH_take (i := 15) (v := ?_) rfl (by kernel_rfl) (by kernel_rfl) (by kernel_rfl) (fun _ _ _ h => h) (Or.inl ⟨by rfl, ?_⟩) (sK _ LX1.out) ?_
          rotate_left
          · (intro wS hSw; (try dsimp only at hSw); go_simp; try with_reducible rfl)
          simp only [Act.put, List.getElem_toArray, List.getElem_cons_zero, List.getElem_cons_succ, List.setIfInBounds_toArray, List.set_cons_zero, List.set_cons_succ]
          refine wpAnyH_done (by kernel_rfl) ?_ _
          clear d1 d2
          go_wp2_with fail
          go_roundg (n - (k + 1))
          case measure => omega
          case rel => exact ⟨k + 1, _, by omega, rfl, rfl, by go_num, HN, E1⟩
        · have hkwi : ¬ (k : Int) < (nw : Int) := by omega
          obtain ⟨d, hd⟩ : ∃ d : Int, 0 - (s.size : Int) = d := ⟨_, rfl⟩
          have D1 : Hid (IntKind.i64.wrap (0 - (s.size : Int)) = d) := Lib.hid (by rw [IntWalk.i64_in _ (by omega)]; exact hd)
          have D2 : Hid (wrap64 (0 - (s.size : Int)) = d) := Lib.hid (by rw [IntWalk.wrap64_in _ (by omega)]; exact hd)
          have D3 : Hid (IntKind.i64.wrap (-(s.size : Int)) = d) := Lib.hid (by rw [← D1.out]; congr 1; omega)
          have D4 : Hid (wrap64 (-(s.size : Int)) = d) := Lib.hid (by rw [← D2.out]; congr 1; omega)
          have hlk : lkC (zat ws) nw (byC tb) k = d.toNat := by
            unfold lkC
            rw [if_neg hkw]; omega
          have KB := Lib.hid (fun V : World => blanks_bel d V (by omega) (by omega))
          have hbs : (blC d.toNat).size = d.toNat := blC_size _
          have hdl : d.toNat ≤ 1000 := by omega
          have HN : Hid (t ++ (s ++ blC d.toNat) = bL (fuC (zat ws) nw (byC tb) (k + 1))) := Lib.hid (by
            have e : fuC (zat ws) nw (byC tb) (k + 1) = byC tb 0 ++ List.replicate d.toNat 32 := by rw [HK0.out, fuC_one, ← hlk, HK0.out]
            rw [e, HT.out, ← HS.out, HK0.out, byC_eq tb 0]
            unfold blC bL byC fuC
            apply ByteArray.ext; apply Array.ext'; simp)
          obtain ⟨bB, hbB⟩ : ∃ bB, blC d.toNat = bB := ⟨_, rfl⟩
          rw [hbB] at KB hbs HN
          have hB1 : bB.size ≤ 1000 := by omega
          clear hlk hbB hbs hdl hd
          have y1 : ¬ 9223372036854775807 < s.size + bB.size := by omega
          have y2 : ¬ 9223372036854775807 < t.size + (s.size + bB.size) := by omega
          have y3 : ¬ 9223372036854775807 < t.size + (s ++ bB).size := by rw [ByteArray.size_append]; omega
          have HX := Lib.hid (at1 c0)
          clear c0
          have kX0 : V.cell? ⟨ba, oa + k, none⟩ = some (.string s) := HX.out 0 _ rfl
          go_wp2_with fail
          have d1 := D1.out; have d2 := D2.out; have d3 := D3.out; have d4 := D4.out
          have sK : ∀ X, At X ba (oa + k) #[.string s] → (fun X => X.cell? ⟨ba, oa + k, none⟩ = some (.string s)) X := fun X hX => hX 0 _ rfl
          have LX0 := Lib.hid (HX.out.drew)
          have E0 := Lib.hid (EE.out.drew)
          clear kX0
          refine wp_region_held_drew (S := (fun X => X.cell? ⟨ba, oa + k, none⟩ = some (.string s))) (by kernel_rfl) (sK _ LX0.out) (fun hHeld => ?_)
          clear hHeld
          refine wpAnyH_take (i := 0) (v := ?_) rfl (by kernel_rfl) (by kernel_rfl) (by kernel_rfl) (fun _ _ _ h => h) (Or.inl ⟨by rfl, ?_⟩) (sK _ LX0.out) ?_
          rotate_left
          · (intro wS hSw; (try dsimp only at hSw); go_simp; try with_reducible rfl)
          simp only [Act.put, List.getElem_toArray, List.getElem_cons_zero, List.getElem_cons_succ, List.setIfInBounds_toArray, List.set_cons_zero, List.set_cons_succ]
          refine wpAnyH_take (i := 1) (v := ?_) rfl (by kernel_rfl) (by kernel_rfl) (by kernel_rfl) (fun _ _ _ h => h) (Or.inl ⟨by rfl, ?_⟩) (sK _ LX0.out) ?_
          rotate_left
          · (intro wS hSw; (try dsimp only at hSw); go_simp; try with_reducible rfl)
          simp only [Act.put, List.getElem_toArray, List.getElem_cons_zero, List.getElem_cons_succ, List.setIfInBounds_toArray, List.set_cons_zero, List.set_cons_succ]
          refine wpAnyH_take (i := 2) (v := ?_) rfl (by kernel_rfl) (by kernel_rfl) (by kernel_rfl) (fun _ _ _ h => h) (Or.inl ⟨by rfl, ?_⟩) (sK _ LX0.out) ?_
          rotate_left
          · (intro wS hSw; (try dsimp only at hSw); go_simp; try with_reducible rfl)
          simp only [Act.put, List.getElem_toArray, List.getElem_cons_zero, List.getElem_cons_succ, List.setIfInBounds_toArray, List.set_cons_zero, List.set_cons_succ]
          refine wpAnyH_take (i := 3) (v := ?_) rfl (by kernel_rfl) (by kernel_rfl) (by kernel_rfl) (fun _ _ _ h => h) (Or.inl ⟨by rfl, ?_⟩) (sK _ LX0.out) ?_
          rotate_left
          · (intro wS hSw; (try dsimp only at hSw); go_simp; try with_reducible rfl)
          simp only [Act.put, List.getElem_toArray, List.getElem_cons_zero, List.getElem_cons_succ, List.setIfInBounds_toArray, List.set_cons_zero, List.set_cons_succ]
          refine wpAnyH_take (i := 4) (v := ?_) rfl (by kernel_rfl) (by kernel_rfl) (by kernel_rfl) (fun _ _ _ h => h) (Or.inl ⟨by rfl, ?_⟩) (sK _ LX0.out) ?_
          rotate_left
          · (intro wS hSw; (try dsimp only at hSw); go_simp; try with_reducible rfl)
          simp only [Act.put, List.getElem_toArray, List.getElem_cons_zero, List.getElem_cons_succ, List.setIfInBounds_toArray, List.set_cons_zero, List.set_cons_succ]
          refine wpAnyH_take (i := 5) (v := ?_) rfl (by kernel_rfl) (by kernel_rfl) (by kernel_rfl) (fun _ _ _ h => h) (Or.inl ⟨by rfl, ?_⟩) (sK _ LX0.out) ?_
          rotate_left
          · (intro wS hSw; (try dsimp only at hSw); go_simp; try with_reducible rfl)
          simp only [Act.put, List.getElem_toArray, List.getElem_cons_zero, List.getElem_cons_succ, List.setIfInBounds_toArray, List.set_cons_zero, List.set_cons_succ]
          refine wpAnyH_take (i := 6) (v := ?_) rfl (by kernel_rfl) (by kernel_rfl) (by kernel_rfl) (fun _ _ _ h => h) (Or.inl ⟨by rfl, ?_⟩) (sK _ LX0.out) ?_
          rotate_left
          · (intro wS hSw; (try dsimp only at hSw); go_simp; try with_reducible rfl)
          simp only [Act.put, List.getElem_toArray, List.getElem_cons_zero, List.getElem_cons_succ, List.setIfInBounds_toArray, List.set_cons_zero, List.set_cons_succ]
          refine wpAnyH_take (i := 7) (v := ?_) rfl (by kernel_rfl) (by kernel_rfl) (by kernel_rfl) (fun _ _ _ h => h) (Or.inl ⟨by rfl, ?_⟩) (sK _ LX0.out) ?_
          rotate_left
          · (intro wS hSw; (try dsimp only at hSw); go_simp; try with_reducible rfl)
          simp only [Act.put, List.getElem_toArray, List.getElem_cons_zero, List.getElem_cons_succ, List.setIfInBounds_toArray, List.set_cons_zero, List.set_cons_succ]
          refine wpAnyH_take (i := 8) (v := ?_) rfl (by kernel_rfl) (by kernel_rfl) (by kernel_rfl) (fun _ _ _ h => h) (Or.inl ⟨by rfl, ?_⟩) (sK _ LX0.out) ?_
          rotate_left
          · (intro wS hSw; (try dsimp only at hSw); go_simp; try with_reducible rfl)
          simp only [Act.put, List.getElem_toArray, List.getElem_cons_zero, List.getElem_cons_succ, List.setIfInBounds_toArray, List.set_cons_zero, List.set_cons_succ]
          refine wpAnyH_take (i := 9) (v := ?_) rfl (by kernel_rfl) (by kernel_rfl) (by kernel_rfl) (fun _ _ _ h => h) (Or.inl ⟨by rfl, ?_⟩) (sK _ LX0.out) ?_
          rotate_left
          · (intro wS hSw; (try dsimp only at hSw); go_simp; try with_reducible rfl)
          simp only [Act.put, List.getElem_toArray, List.getElem_cons_zero, List.getElem_cons_succ, List.setIfInBounds_toArray, List.set_cons_zero, List.set_cons_succ]
          refine wpAnyH_take (i := 10) (v := ?_) rfl (by kernel_rfl) (by kernel_rfl) (by kernel_rfl) (fun _ _ _ h => h) (Or.inl ⟨by rfl, ?_⟩) (sK _ LX0.out) ?_
          rotate_left
          · (intro wS hSw; (try dsimp only at hSw); go_simp; try with_reducible rfl)
          simp only [Act.put, List.getElem_toArray, List.getElem_cons_zero, List.getElem_cons_succ, List.setIfInBounds_toArray, List.set_cons_zero, List.set_cons_succ]
          refine wpAnyH_take (i := 11) (v := ?_) rfl (by kernel_rfl) (by kernel_rfl) (by kernel_rfl) (fun _ _ _ h => h) (Or.inl ⟨by rfl, ?_⟩) (sK _ LX0.out) ?_
          rotate_left
          · (intro wS hSw; (try dsimp only at hSw); go_simp; try with_reducible rfl)
          simp only [Act.put, List.getElem_toArray, List.getElem_cons_zero, List.getElem_cons_succ, List.setIfInBounds_toArray, List.set_cons_zero, List.set_cons_succ]
          refine wpAnyH_ready (rs := [12]) (by kernel_rfl) (by simp) ?_
          refine AllReadyH.cons rfl (fun K hK => ?_) AllReadyH.nil
          go_simp
          refine (KB.out _).mono ?_
          rintro e r1 ⟨rfl, hb⟩
          have LX1 := Lib.hid (At.next (w := V.drew) LX0.out hb)
          have E1 := Lib.hid (E0.out.trans (hb.mono E0.out.size))
          clear hb
          go_wp2_with fail
          refine hK.out _ _ (sK _ LX1.out) (fun hHeld => ?_)
          clear hK K hHeld
          try simp only [Act.put, List.getElem_toArray, List.getElem_cons_zero, List.getElem_cons_succ, List.setIfInBounds_toArray, List.set_cons_zero, List.set_cons_succ]
          refine wpAnyH_take (i := 13) (v := ?_) rfl (by kernel_rfl) (by kernel_rfl) (by kernel_rfl) (fun _ _ _ h => h) (Or.inl ⟨by rfl, ?_⟩) (sK _ LX1.out) ?_
          rotate_left
          · (intro wS hSw; (try dsimp only at hSw); go_simp; try with_reducible rfl)
          simp only [Act.put, List.getElem_toArray, List.getElem_cons_zero, List.getElem_cons_succ, List.setIfInBounds_toArray, List.set_cons_zero, List.set_cons_succ]
          refine wpAnyH_take (i := 14) (v := ?_) rfl (by kernel_rfl) (by kernel_rfl) (by kernel_rfl) (fun _ _ _ h => h) (Or.inl ⟨by rfl, ?_⟩) (sK _ LX1.out) ?_
          rotate_left
          · (intro wS hSw; (try dsimp only at hSw); go_simp; try with_reducible rfl)
          simp only [Act.put, List.getElem_toArray, List.getElem_cons_zero, List.getElem_cons_succ, List.setIfInBounds_toArray, List.set_cons_zero, List.set_cons_succ]
          refine wpAnyH_take (i := 15) (v := ?_) rfl (by kernel_rfl) (by kernel_rfl) (by kernel_rfl) (fun _ _ _ h => h) (Or.inl ⟨by rfl, ?_⟩) (sK _ LX1.out) ?_
          rotate_left
          · (intro wS hSw; (try dsimp only at hSw); go_simp; try with_reducible rfl)
          simp only [Act.put, List.getElem_toArray, List.getElem_cons_zero, List.getElem_cons_succ, List.setIfInBounds_toArray, List.set_cons_zero, List.set_cons_succ]
          refine wpAnyH_done (by kernel_rfl) ?_ _
          clear d1 d2 d3 d4
          go_wp2_with fail
          go_roundg (n - (k + 1))
          case measure => omega
          case rel => exact ⟨k + 1, _, by omega, rfl, rfl, by go_num, HN, E1⟩
      · have HK0 := Lib.hid hk0
        have hke : ((k : Int) == 0) = false := by rw [beq_eq_false_iff_ne]; omega
        clear hk0
        by_cases hkw : k < nw
        · have hkwi : (k : Int) < (nw : Int) := by omega
          obtain ⟨bw, ow, rfl, hltw, hcw⟩ := rdI_row HWW.out (by have := HWN.out; omega)
          have c1 : V.cell? ⟨bw, ow + k, none⟩ = some (.int .i64 (zat ws k)) := (EE.out.cell (p := ⟨bw, ow + k, none⟩) hltw).trans (hcw k (by have := HWN.out; omega))
          have hx := HWB.out k hkw
          obtain ⟨x, hxw⟩ : ∃ x, zat ws k = x := ⟨_, rfl⟩
          rw [hxw] at c1 hx
          have HXW := Lib.hid hxw
          clear hxw hcw hltw
          obtain ⟨d, hd⟩ : ∃ d : Int, x - (s.size : Int) = d := ⟨_, rfl⟩
          have D1 : Hid (IntKind.i64.wrap (x - (s.size : Int)) = d) := Lib.hid (by rw [IntWalk.i64_in _ (by omega)]; exact hd)
          have D2 : Hid (wrap64 (x - (s.size : Int)) = d) := Lib.hid (by rw [IntWalk.wrap64_in _ (by omega)]; exact hd)
          have hlk : lkC (zat ws) nw (byC tb) k = d.toNat := by
            unfold lkC
            rw [if_pos hkw, byC_len, HS.out, HXW.out, hd]
          have KB := Lib.hid (fun V : World => blanks_bel d V (by omega) (by omega))
          have hbs : (blC d.toNat).size = d.toNat := blC_size _
          have hdl : d.toNat ≤ 1000 := by omega
          have HN : Hid (t ++ ((ByteArray.mk #[32, 32] ++ blC d.toNat) ++ s) = bL (fuC (zat ws) nw (byC tb) (k + 1))) := Lib.hid (by
            have e : fuC (zat ws) nw (byC tb) (k + 1) = fuC (zat ws) nw (byC tb) k ++ ([32, 32] ++ List.replicate d.toNat 32 ++ byC tb k) := by rw [fuC_succ _ _ _ (by have := HK0.out; omega), hlk]
            rw [e, HT.out, ← HS.out]
            generalize fuC (zat ws) nw (byC tb) k = L
            unfold blC bL byC
            apply ByteArray.ext; apply Array.ext'; simp)
          obtain ⟨bB, hbB⟩ : ∃ bB, blC d.toNat = bB := ⟨_, rfl⟩
          rw [hbB] at KB hbs HN
          have hB1 : bB.size ≤ 1000 := by omega
          clear hlk hbB hbs hdl hd
          have y1 : ¬ 9223372036854775807 < 2 + bB.size := by omega
          have y2 : ¬ 9223372036854775807 < 2 + bB.size + s.size := by omega
          have y3 : ¬ 9223372036854775807 < t.size + (2 + bB.size + s.size) := by omega
          have e2 : (ByteArray.mk #[32, 32]).size = 2 := rfl
          have HX := Lib.hid (at1 c0)
          clear c0
          have kX0 : V.cell? ⟨ba, oa + k, none⟩ = some (.string s) := HX.out 0 _ rfl
          go_wp2_with fail
          have d1 := D1.out; have d2 := D2.out
          have sK : ∀ X, At X ba (oa + k) #[.string s] → (fun X => X.cell? ⟨ba, oa + k, none⟩ = some (.string s)) X := fun X hX => hX 0 _ rfl
          have LX0 := Lib.hid (HX.out.drew)
          have E0 := Lib.hid (EE.out.drew)
          clear kX0
          refine wp_region_held_drew (S := (fun X => X.cell? ⟨ba, oa + k, none⟩ = some (.string s))) (by kernel_rfl) (sK _ LX0.out) (fun hHeld => ?_)
          clear hHeld
          refine wpAnyH_take (i := 0) (v := ?_) rfl (by kernel_rfl) (by kernel_rfl) (by kernel_rfl) (fun _ _ _ h => h) (Or.inl ⟨by rfl, ?_⟩) (sK _ LX0.out) ?_
          rotate_left
          · (intro wS hSw; (try dsimp only at hSw); go_simp; try with_reducible rfl)
          simp only [Act.put, List.getElem_toArray, List.getElem_cons_zero, List.getElem_cons_succ, List.setIfInBounds_toArray, List.set_cons_zero, List.set_cons_succ]
          refine wpAnyH_take (i := 1) (v := ?_) rfl (by kernel_rfl) (by kernel_rfl) (by kernel_rfl) (fun _ _ _ h => h) (Or.inl ⟨by rfl, ?_⟩) (sK _ LX0.out) ?_
          rotate_left
          · (intro wS hSw; (try dsimp only at hSw); go_simp; try with_reducible rfl)
          simp only [Act.put, List.getElem_toArray, List.getElem_cons_zero, List.getElem_cons_succ, List.setIfInBounds_toArray, List.set_cons_zero, List.set_cons_succ]
          refine wpAnyH_take (i := 2) (v := ?_) rfl (by kernel_rfl) (by kernel_rfl) (by kernel_rfl) (fun _ _ _ h => h) (Or.inl ⟨by rfl, ?_⟩) (sK _ LX0.out) ?_
          rotate_left
          · (intro wS hSw; (try dsimp only at hSw); go_simp; try with_reducible rfl)
          simp only [Act.put, List.getElem_toArray, List.getElem_cons_zero, List.getElem_cons_succ, List.setIfInBounds_toArray, List.set_cons_zero, List.set_cons_succ]
          refine wpAnyH_take (i := 3) (v := ?_) rfl (by kernel_rfl) (by kernel_rfl) (by kernel_rfl) (fun _ _ _ h => h) (Or.inl ⟨by rfl, ?_⟩) (sK _ LX0.out) ?_
          rotate_left
          · (intro wS hSw; (try dsimp only at hSw); go_simp; try with_reducible rfl)
          simp only [Act.put, List.getElem_toArray, List.getElem_cons_zero, List.getElem_cons_succ, List.setIfInBounds_toArray, List.set_cons_zero, List.set_cons_succ]
          refine wpAnyH_take (i := 4) (v := ?_) rfl (by kernel_rfl) (by kernel_rfl) (by kernel_rfl) (fun _ _ _ h => h) (Or.inl ⟨by rfl, ?_⟩) (sK _ LX0.out) ?_
          rotate_left
          · (intro wS hSw; (try dsimp only at hSw); go_simp; try with_reducible rfl)
          simp only [Act.put, List.getElem_toArray, List.getElem_cons_zero, List.getElem_cons_succ, List.setIfInBounds_toArray, List.set_cons_zero, List.set_cons_succ]
          refine wpAnyH_take (i := 5) (v := ?_) rfl (by kernel_rfl) (by kernel_rfl) (by kernel_rfl) (fun _ _ _ h => h) (Or.inl ⟨by rfl, ?_⟩) (sK _ LX0.out) ?_
          rotate_left
          · (intro wS hSw; (try dsimp only at hSw); go_simp; try with_reducible rfl)
          simp only [Act.put, List.getElem_toArray, List.getElem_cons_zero, List.getElem_cons_succ, List.setIfInBounds_toArray, List.set_cons_zero, List.set_cons_succ]
          refine wpAnyH_take (i := 6) (v := ?_) rfl (by kernel_rfl) (by kernel_rfl) (by kernel_rfl) (fun _ _ _ h => h) (Or.inl ⟨by rfl, ?_⟩) (sK _ LX0.out) ?_
          rotate_left
          · (intro wS hSw; (try dsimp only at hSw); go_simp; try with_reducible rfl)
          simp only [Act.put, List.getElem_toArray, List.getElem_cons_zero, List.getElem_cons_succ, List.setIfInBounds_toArray, List.set_cons_zero, List.set_cons_succ]
          refine wpAnyH_take (i := 7) (v := ?_) rfl (by kernel_rfl) (by kernel_rfl) (by kernel_rfl) (fun _ _ _ h => h) (Or.inl ⟨by rfl, ?_⟩) (sK _ LX0.out) ?_
          rotate_left
          · (intro wS hSw; (try dsimp only at hSw); go_simp; try with_reducible rfl)
          simp only [Act.put, List.getElem_toArray, List.getElem_cons_zero, List.getElem_cons_succ, List.setIfInBounds_toArray, List.set_cons_zero, List.set_cons_succ]
          refine wpAnyH_take (i := 10) (v := ?_) rfl (by kernel_rfl) (by kernel_rfl) (by kernel_rfl) (fun _ _ _ h => h) (Or.inl ⟨by rfl, ?_⟩) (sK _ LX0.out) ?_
          rotate_left
          · (intro wS hSw; (try dsimp only at hSw); go_simp; try with_reducible rfl)
          simp only [Act.put, List.getElem_toArray, List.getElem_cons_zero, List.getElem_cons_succ, List.setIfInBounds_toArray, List.set_cons_zero, List.set_cons_succ]
          refine wpAnyH_take (i := 11) (v := ?_) rfl (by kernel_rfl) (by kernel_rfl) (by kernel_rfl) (fun _ _ _ h => h) (Or.inl ⟨by rfl, ?_⟩) (sK _ LX0.out) ?_
          rotate_left
          · (intro wS hSw; (try dsimp only at hSw); go_simp; try with_reducible rfl)
          simp only [Act.put, List.getElem_toArray, List.getElem_cons_zero, List.getElem_cons_succ, List.setIfInBounds_toArray, List.set_cons_zero, List.set_cons_succ]
          refine wpAnyH_take (i := 12) (v := ?_) rfl (by kernel_rfl) (by kernel_rfl) (by kernel_rfl) (fun _ _ _ h => h) (Or.inl ⟨by rfl, ?_⟩) (sK _ LX0.out) ?_
          rotate_left
          · (intro wS hSw; (try dsimp only at hSw); go_simp; try with_reducible rfl)
          simp only [Act.put, List.getElem_toArray, List.getElem_cons_zero, List.getElem_cons_succ, List.setIfInBounds_toArray, List.set_cons_zero, List.set_cons_succ]
          refine wpAnyH_take (i := 13) (v := ?_) rfl (by kernel_rfl) (by kernel_rfl) (by kernel_rfl) (fun _ _ _ h => h) (Or.inl ⟨by rfl, ?_⟩) (sK _ LX0.out) ?_
          rotate_left
          · (intro wS hSw; (try dsimp only at hSw); go_simp; try with_reducible rfl)
          simp only [Act.put, List.getElem_toArray, List.getElem_cons_zero, List.getElem_cons_succ, List.setIfInBounds_toArray, List.set_cons_zero, List.set_cons_succ]
          refine wpAnyH_ready (rs := [8]) (by kernel_rfl) (by simp) ?_
          refine AllReadyH.cons rfl (fun K hK => ?_) AllReadyH.nil
          go_simp
          refine (KB.out _).mono ?_
          rintro e r1 ⟨rfl, hb⟩
          have LX1 := Lib.hid (At.next (w := V.drew) LX0.out hb)
          have E1 := Lib.hid (E0.out.trans (hb.mono E0.out.size))
          clear hb
          go_wp2_with fail
          refine hK.out _ _ (sK _ LX1.out) (fun hHeld => ?_)
          clear hK K hHeld
          try simp only [Act.put, List.getElem_toArray, List.getElem_cons_zero, List.getElem_cons_succ, List.setIfInBounds_toArray, List.set_cons_zero, List.set_cons_succ]
          refine wpAnyH_take (i := 9) (v := ?_) rfl (by kernel_rfl) (by kernel_rfl) (by kernel_rfl) (fun _ _ _ h => h) (Or.inl ⟨by rfl, ?_⟩) (sK _ LX1.out) ?_
          rotate_left
          · (intro wS hSw; (try dsimp only at hSw); go_simp; try with_reducible rfl)
          simp only [Act.put, List.getElem_toArray, List.getElem_cons_zero, List.getElem_cons_succ, List.setIfInBounds_toArray, List.set_cons_zero, List.set_cons_succ]
          refine wpAnyH_take (i := 14) (v := ?_) rfl (by kernel_rfl) (by kernel_rfl) (by kernel_rfl) (fun _ _ _ h => h) (Or.inl ⟨by rfl, ?_⟩) (sK _ LX1.out) ?_
          rotate_left
          · (intro wS hSw; (try dsimp only at hSw); go_simp; try with_reducible rfl)
          simp only [Act.put, List.getElem_toArray, List.getElem_cons_zero, List.getElem_cons_succ, List.setIfInBounds_toArray, List.set_cons_zero, List.set_cons_succ]
          refine wpAnyH_take (i := 15) (v := ?_) rfl (by kernel_rfl) (by kernel_rfl) (by kernel_rfl) (fun _ _ _ h => h) (Or.inl ⟨by rfl, ?_⟩) (sK _ LX1.out) ?_
          rotate_left
          · (intro wS hSw; (try dsimp only at hSw); go_simp; try with_reducible rfl)
          simp only [Act.put, List.getElem_toArray, List.getElem_cons_zero, List.getElem_cons_succ, List.setIfInBounds_toArray, List.set_cons_zero, List.set_cons_succ]
          refine wpAnyH_take (i := 16) (v := ?_) rfl (by kernel_rfl) (by kernel_rfl) (by kernel_rfl) (fun _ _ _ h => h) (Or.inl ⟨by rfl, ?_⟩) (sK _ LX1.out) ?_
          rotate_left
          · (intro wS hSw; (try dsimp only at hSw); go_simp; try with_reducible rfl)
          simp only [Act.put, List.getElem_toArray, List.getElem_cons_zero, List.getElem_cons_succ, List.setIfInBounds_toArray, List.set_cons_zero, List.set_cons_succ]
          refine wpAnyH_done (by kernel_rfl) ?_ _
          clear d1 d2
          go_wp2_with fail
          go_roundg (n - (k + 1))
          case measure => omega
          case rel => exact ⟨k + 1, _, by omega, rfl, rfl, by go_num, HN, E1⟩
        · have hkwi : ¬ (k : Int) < (nw : Int) := by omega
          obtain ⟨d, hd⟩ : ∃ d : Int, 0 - (s.size : Int) = d := ⟨_, rfl⟩
          have D1 : Hid (IntKind.i64.wrap (0 - (s.size : Int)) = d) := Lib.hid (by rw [IntWalk.i64_in _ (by omega)]; exact hd)
          have D2 : Hid (wrap64 (0 - (s.size : Int)) = d) := Lib.hid (by rw [IntWalk.wrap64_in _ (by omega)]; exact hd)
          have D3 : Hid (IntKind.i64.wrap (-(s.size : Int)) = d) := Lib.hid (by rw [← D1.out]; congr 1; omega)
          have D4 : Hid (wrap64 (-(s.size : Int)) = d) := Lib.hid (by rw [← D2.out]; congr 1; omega)
          have hlk : lkC (zat ws) nw (byC tb) k = d.toNat := by
            unfold lkC
            rw [if_neg hkw]; omega
          have KB := Lib.hid (fun V : World => blanks_bel d V (by omega) (by omega))
          have hbs : (blC d.toNat).size = d.toNat := blC_size _
          have hdl : d.toNat ≤ 1000 := by omega
          have HN : Hid (t ++ ((ByteArray.mk #[32, 32] ++ blC d.toNat) ++ s) = bL (fuC (zat ws) nw (byC tb) (k + 1))) := Lib.hid (by
            have e : fuC (zat ws) nw (byC tb) (k + 1) = fuC (zat ws) nw (byC tb) k ++ ([32, 32] ++ List.replicate d.toNat 32 ++ byC tb k) := by rw [fuC_succ _ _ _ (by have := HK0.out; omega), hlk]
            rw [e, HT.out, ← HS.out]
            generalize fuC (zat ws) nw (byC tb) k = L
            unfold blC bL byC
            apply ByteArray.ext; apply Array.ext'; simp)
          obtain ⟨bB, hbB⟩ : ∃ bB, blC d.toNat = bB := ⟨_, rfl⟩
          rw [hbB] at KB hbs HN
          have hB1 : bB.size ≤ 1000 := by omega
          clear hlk hbB hbs hdl hd
          have y1 : ¬ 9223372036854775807 < 2 + bB.size := by omega
          have y2 : ¬ 9223372036854775807 < 2 + bB.size + s.size := by omega
          have y3 : ¬ 9223372036854775807 < t.size + (2 + bB.size + s.size) := by omega
          have e2 : (ByteArray.mk #[32, 32]).size = 2 := rfl
          have HX := Lib.hid (at1 c0)
          clear c0
          have kX0 : V.cell? ⟨ba, oa + k, none⟩ = some (.string s) := HX.out 0 _ rfl
          go_wp2_with fail
          have d1 := D1.out; have d2 := D2.out; have d3 := D3.out; have d4 := D4.out
          have sK : ∀ X, At X ba (oa + k) #[.string s] → (fun X => X.cell? ⟨ba, oa + k, none⟩ = some (.string s)) X := fun X hX => hX 0 _ rfl
          have LX0 := Lib.hid (HX.out.drew)
          have E0 := Lib.hid (EE.out.drew)
          clear kX0
          refine wp_region_held_drew (S := (fun X => X.cell? ⟨ba, oa + k, none⟩ = some (.string s))) (by kernel_rfl) (sK _ LX0.out) (fun hHeld => ?_)
          clear hHeld
          refine wpAnyH_take (i := 0) (v := ?_) rfl (by kernel_rfl) (by kernel_rfl) (by kernel_rfl) (fun _ _ _ h => h) (Or.inl ⟨by rfl, ?_⟩) (sK _ LX0.out) ?_
          rotate_left
          · (intro wS hSw; (try dsimp only at hSw); go_simp; try with_reducible rfl)
          simp only [Act.put, List.getElem_toArray, List.getElem_cons_zero, List.getElem_cons_succ, List.setIfInBounds_toArray, List.set_cons_zero, List.set_cons_succ]
          refine wpAnyH_take (i := 1) (v := ?_) rfl (by kernel_rfl) (by kernel_rfl) (by kernel_rfl) (fun _ _ _ h => h) (Or.inl ⟨by rfl, ?_⟩) (sK _ LX0.out) ?_
          rotate_left
          · (intro wS hSw; (try dsimp only at hSw); go_simp; try with_reducible rfl)
          simp only [Act.put, List.getElem_toArray, List.getElem_cons_zero, List.getElem_cons_succ, List.setIfInBounds_toArray, List.set_cons_zero, List.set_cons_succ]
          refine wpAnyH_take (i := 2) (v := ?_) rfl (by kernel_rfl) (by kernel_rfl) (by kernel_rfl) (fun _ _ _ h => h) (Or.inl ⟨by rfl, ?_⟩) (sK _ LX0.out) ?_
          rotate_left
          · (intro wS hSw; (try dsimp only at hSw); go_simp; try with_reducible rfl)
          simp only [Act.put, List.getElem_toArray, List.getElem_cons_zero, List.getElem_cons_succ, List.setIfInBounds_toArray, List.set_cons_zero, List.set_cons_succ]
          refine wpAnyH_take (i := 3) (v := ?_) rfl (by kernel_rfl) (by kernel_rfl) (by kernel_rfl) (fun _ _ _ h => h) (Or.inl ⟨by rfl, ?_⟩) (sK _ LX0.out) ?_
          rotate_left
          · (intro wS hSw; (try dsimp only at hSw); go_simp; try with_reducible rfl)
          simp only [Act.put, List.getElem_toArray, List.getElem_cons_zero, List.getElem_cons_succ, List.setIfInBounds_toArray, List.set_cons_zero, List.set_cons_succ]
          refine wpAnyH_take (i := 4) (v := ?_) rfl (by kernel_rfl) (by kernel_rfl) (by kernel_rfl) (fun _ _ _ h => h) (Or.inl ⟨by rfl, ?_⟩) (sK _ LX0.out) ?_
          rotate_left
          · (intro wS hSw; (try dsimp only at hSw); go_simp; try with_reducible rfl)
          simp only [Act.put, List.getElem_toArray, List.getElem_cons_zero, List.getElem_cons_succ, List.setIfInBounds_toArray, List.set_cons_zero, List.set_cons_succ]
          refine wpAnyH_take (i := 5) (v := ?_) rfl (by kernel_rfl) (by kernel_rfl) (by kernel_rfl) (fun _ _ _ h => h) (Or.inl ⟨by rfl, ?_⟩) (sK _ LX0.out) ?_
          rotate_left
          · (intro wS hSw; (try dsimp only at hSw); go_simp; try with_reducible rfl)
          simp only [Act.put, List.getElem_toArray, List.getElem_cons_zero, List.getElem_cons_succ, List.setIfInBounds_toArray, List.set_cons_zero, List.set_cons_succ]
          refine wpAnyH_take (i := 6) (v := ?_) rfl (by kernel_rfl) (by kernel_rfl) (by kernel_rfl) (fun _ _ _ h => h) (Or.inl ⟨by rfl, ?_⟩) (sK _ LX0.out) ?_
          rotate_left
          · (intro wS hSw; (try dsimp only at hSw); go_simp; try with_reducible rfl)
          simp only [Act.put, List.getElem_toArray, List.getElem_cons_zero, List.getElem_cons_succ, List.setIfInBounds_toArray, List.set_cons_zero, List.set_cons_succ]
          refine wpAnyH_take (i := 7) (v := ?_) rfl (by kernel_rfl) (by kernel_rfl) (by kernel_rfl) (fun _ _ _ h => h) (Or.inl ⟨by rfl, ?_⟩) (sK _ LX0.out) ?_
          rotate_left
          · (intro wS hSw; (try dsimp only at hSw); go_simp; try with_reducible rfl)
          simp only [Act.put, List.getElem_toArray, List.getElem_cons_zero, List.getElem_cons_succ, List.setIfInBounds_toArray, List.set_cons_zero, List.set_cons_succ]
          refine wpAnyH_take (i := 10) (v := ?_) rfl (by kernel_rfl) (by kernel_rfl) (by kernel_rfl) (fun _ _ _ h => h) (Or.inl ⟨by rfl, ?_⟩) (sK _ LX0.out) ?_
          rotate_left
          · (intro wS hSw; (try dsimp only at hSw); go_simp; try with_reducible rfl)
          simp only [Act.put, List.getElem_toArray, List.getElem_cons_zero, List.getElem_cons_succ, List.setIfInBounds_toArray, List.set_cons_zero, List.set_cons_succ]
          refine wpAnyH_take (i := 11) (v := ?_) rfl (by kernel_rfl) (by kernel_rfl) (by kernel_rfl) (fun _ _ _ h => h) (Or.inl ⟨by rfl, ?_⟩) (sK _ LX0.out) ?_
          rotate_left
          · (intro wS hSw; (try dsimp only at hSw); go_simp; try with_reducible rfl)
          simp only [Act.put, List.getElem_toArray, List.getElem_cons_zero, List.getElem_cons_succ, List.setIfInBounds_toArray, List.set_cons_zero, List.set_cons_succ]
          refine wpAnyH_take (i := 12) (v := ?_) rfl (by kernel_rfl) (by kernel_rfl) (by kernel_rfl) (fun _ _ _ h => h) (Or.inl ⟨by rfl, ?_⟩) (sK _ LX0.out) ?_
          rotate_left
          · (intro wS hSw; (try dsimp only at hSw); go_simp; try with_reducible rfl)
          simp only [Act.put, List.getElem_toArray, List.getElem_cons_zero, List.getElem_cons_succ, List.setIfInBounds_toArray, List.set_cons_zero, List.set_cons_succ]
          refine wpAnyH_take (i := 13) (v := ?_) rfl (by kernel_rfl) (by kernel_rfl) (by kernel_rfl) (fun _ _ _ h => h) (Or.inl ⟨by rfl, ?_⟩) (sK _ LX0.out) ?_
          rotate_left
          · (intro wS hSw; (try dsimp only at hSw); go_simp; try with_reducible rfl)
          simp only [Act.put, List.getElem_toArray, List.getElem_cons_zero, List.getElem_cons_succ, List.setIfInBounds_toArray, List.set_cons_zero, List.set_cons_succ]
          refine wpAnyH_ready (rs := [8]) (by kernel_rfl) (by simp) ?_
          refine AllReadyH.cons rfl (fun K hK => ?_) AllReadyH.nil
          go_simp
          refine (KB.out _).mono ?_
          rintro e r1 ⟨rfl, hb⟩
          have LX1 := Lib.hid (At.next (w := V.drew) LX0.out hb)
          have E1 := Lib.hid (E0.out.trans (hb.mono E0.out.size))
          clear hb
          go_wp2_with fail
          refine hK.out _ _ (sK _ LX1.out) (fun hHeld => ?_)
          clear hK K hHeld
          try simp only [Act.put, List.getElem_toArray, List.getElem_cons_zero, List.getElem_cons_succ, List.setIfInBounds_toArray, List.set_cons_zero, List.set_cons_succ]
          refine wpAnyH_take (i := 9) (v := ?_) rfl (by kernel_rfl) (by kernel_rfl) (by kernel_rfl) (fun _ _ _ h => h) (Or.inl ⟨by rfl, ?_⟩) (sK _ LX1.out) ?_
          rotate_left
          · (intro wS hSw; (try dsimp only at hSw); go_simp; try with_reducible rfl)
          simp only [Act.put, List.getElem_toArray, List.getElem_cons_zero, List.getElem_cons_succ, List.setIfInBounds_toArray, List.set_cons_zero, List.set_cons_succ]
          refine wpAnyH_take (i := 14) (v := ?_) rfl (by kernel_rfl) (by kernel_rfl) (by kernel_rfl) (fun _ _ _ h => h) (Or.inl ⟨by rfl, ?_⟩) (sK _ LX1.out) ?_
          rotate_left
          · (intro wS hSw; (try dsimp only at hSw); go_simp; try with_reducible rfl)
          simp only [Act.put, List.getElem_toArray, List.getElem_cons_zero, List.getElem_cons_succ, List.setIfInBounds_toArray, List.set_cons_zero, List.set_cons_succ]
          refine wpAnyH_take (i := 15) (v := ?_) rfl (by kernel_rfl) (by kernel_rfl) (by kernel_rfl) (fun _ _ _ h => h) (Or.inl ⟨by rfl, ?_⟩) (sK _ LX1.out) ?_
          rotate_left
          · (intro wS hSw; (try dsimp only at hSw); go_simp; try with_reducible rfl)
          simp only [Act.put, List.getElem_toArray, List.getElem_cons_zero, List.getElem_cons_succ, List.setIfInBounds_toArray, List.set_cons_zero, List.set_cons_succ]
          refine wpAnyH_take (i := 16) (v := ?_) rfl (by kernel_rfl) (by kernel_rfl) (by kernel_rfl) (fun _ _ _ h => h) (Or.inl ⟨by rfl, ?_⟩) (sK _ LX1.out) ?_
          rotate_left
          · (intro wS hSw; (try dsimp only at hSw); go_simp; try with_reducible rfl)
          simp only [Act.put, List.getElem_toArray, List.getElem_cons_zero, List.getElem_cons_succ, List.setIfInBounds_toArray, List.set_cons_zero, List.set_cons_succ]
          refine wpAnyH_done (by kernel_rfl) ?_ _
          clear d1 d2 d3 d4
          go_wp2_with fail
          go_roundg (n - (k + 1))
          case measure => omega
          case rel => exact ⟨k + 1, _, by omega, rfl, rfl, by go_num, HN, E1⟩
    · obtain rfl : k = n := by omega
      have hp := tr_parts (fuC (zat ws) nw (byC tb) k) 32
      have hln := tr_len (fuC (zat ws) nw (byC tb) k) 32
      have hno := tr_noEnd (fuC (zat ws) nw (byC tb) k) 32
      have hfl := HFL.out k hk
      obtain ⟨D, hD⟩ : ∃ D, (fuC (zat ws) nw (byC tb) k).length - (Lib.trimRightB (fuC (zat ws) nw (byC tb) k) 32).length = D := ⟨_, rfl⟩
      rw [hD] at hp
      obtain ⟨T, hTT⟩ : ∃ T, Lib.trimRightB (fuC (zat ws) nw (byC tb) k) 32 = T := ⟨_, rfl⟩
      rw [hTT] at hp hno hln hD
      have HT2 : Hid (t = bL (T ++ List.replicate D 32)) := Lib.hid (by rw [HT.out]; exact congrArg bL hp)
      have HNO := Lib.hid hno
      have hTl : T.length ≤ 33000 := by omega
      have hDl : D ≤ 33000 := by omega
      have HLN : Hid (lnC (zat ws) nw (byC tb) k = T) := Lib.hid hTT
      clear hp hln hno hfl hD hTT HT
      go_wp2_with fail
      go_loopg [5] D (fun gh sv wr => ∃ (d : Nat) (t : ByteArray), d ≤ D ∧ d + 0 = gh ∧ sv = .string t ∧ Hid (t = bL (T ++ List.replicate d 32)) ∧ V = wr)
      case atStart => exact ⟨D, t, Nat.le_refl _, rfl, rfl, HT2, rfl⟩
      case round =>
        clear HT2
        obtain ⟨d, t, hd, rfl, rfl, HT, rfl⟩ := hrel
        by_cases hd0 : d = 0
        · subst hd0
          rcases HNO.out with h0 | ⟨X, y, hX, hy⟩
          · have hts : t.size = 0 := by rw [HT.out, bL_size, h0]; rfl
            have hgt : ¬ (0 : Int) < (t.size : Int) := by omega
            have HF : Hid (t = bL (lnC (zat ws) nw (byC tb) k)) := Lib.hid (by rw [HLN.out, HT.out]; simp)
            go_wp2_with fail
            rw [← HRR.out]
            exact ⟨congrArg (fun z => Ending.returned (Value.string z)) HF.out, EE.out⟩
          · have hts : t.size = X.length + 1 := by rw [HT.out, bL_size, hX]; simp
            have hgt : (0 : Int) < (t.size : Int) := by omega
            have hXl : X.length ≤ 33000 := by rw [hX] at hTl; simp at hTl; omega
            obtain ⟨j, hj⟩ : ∃ j, X.length = j := ⟨_, rfl⟩
            have q1 : IntKind.i64.wrap ((t.size : Int) - 1) = (j : Int) := by rw [IntWalk.i64_in _ (by omega)]; omega
            have q2 : wrap64 ((t.size : Int) - 1) = (j : Int) := by rw [IntWalk.wrap64_in _ (by omega)]; omega
            have kj : j < t.size := by omega
            have gj := ix_of t j y (by rw [HT.out, hX, ← hj]; unfold bL; simp) kj
            have hyn : y.toNat ≠ 32 := fun q => hy (UInt8.toNat_inj.1 q)
            obtain ⟨yn, hyy⟩ : ∃ yn, y.toNat = yn := ⟨_, rfl⟩
            rw [hyy] at gj hyn
            have hcmp : ((yn : Int) == 32) = false := by rw [beq_eq_false_iff_ne]; omega
            have HF : Hid (t = bL (lnC (zat ws) nw (byC tb) k)) := Lib.hid (by rw [HLN.out, HT.out]; simp)
            clear hX hy hyy hj hXl hts
            go_wp2_with fail
            rw [← HRR.out]
            exact ⟨congrArg (fun z => Ending.returned (Value.string z)) HF.out, EE.out⟩
        · obtain ⟨d', rfl⟩ : ∃ d', d = d' + 1 := ⟨d - 1, by omega⟩
          have hts : t.size = T.length + d' + 1 := by rw [HT.out, bL_size]; simp; omega
          have hgt : (0 : Int) < (t.size : Int) := by omega
          obtain ⟨j, hj⟩ : ∃ j, T.length + d' = j := ⟨_, rfl⟩
          have q1 : IntKind.i64.wrap ((t.size : Int) - 1) = (j : Int) := by rw [IntWalk.i64_in _ (by omega)]; omega
          have q2 : wrap64 ((t.size : Int) - 1) = (j : Int) := by rw [IntWalk.wrap64_in _ (by omega)]; omega
          have kj : j < t.size := by omega
          have kj2 : j ≤ t.size := by omega
          have gj := ix_of t j 32 (by rw [HT.out, ← hj]; exact at_last T d') kj
          have gj2 : (t[j]'kj).toNat = 32 := gj
          have HC : Hid (t.extract 0 j = bL (T ++ List.replicate d' 32)) := Lib.hid (by rw [HT.out, ← hj]; exact cut_last T d')
          clear gj hj hts
          go_wp2_with fail
          go_roundg d'
          case measure => omega
          case rel => exact ⟨d', _, by omega, rfl, rfl, HC, rfl⟩
end Go.Proofs.YtkonghjmipclmaaDoor
