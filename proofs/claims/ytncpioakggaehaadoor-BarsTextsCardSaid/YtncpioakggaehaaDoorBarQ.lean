/- Bars: bars.Text. -/
import Derived.Test.YtncpioakggaehaaDoorRows
import Derived.Test.YtncpioakggaehaaDoorRowKit
import Derived.Test.YtncpioakggaehaaDoorShelf
import Derived.Test.YtncpioakggaehaaDoorBlocks
import Derived.Test.YtncpioakggaehaaDoorSlicesEq
import Derived.Test.YtncpioakggaehaaDoorAtKit
import Derived.Test.YtncpioakggaehaaDoorRowT
import Derived.Test.YtncpioakggaehaaDoorTab
import Derived.Test.YtncpioakggaehaaDoorDigB
import Derived.Test.YtncpioakggaehaaDoorDigE
import Derived.Test.YtncpioakggaehaaDoorBarsA
import Derived.Test.YtncpioakggaehaaDoorBuA
import Derived.Test.YtncpioakggaehaaDoorBarP
import Derived.WalkKit
import Derived.IntWalk
import Derived.Lib.Hide
import Derived.Lib.ItoaLen
import Derived.WalkSpells
import Derived.WalkLawsBesides
import Derived.Laws.IdiomStrings
import Derived.Laws.OwnMore
import Derived.OwnWalk
import Derived.Deep.QuietTactic
import Derived.BigQuiet
import Derived.BigRegion
import Derived.Deep.RegionHeld3
import Derived.Deep.LoopGhost
namespace Go.Proofs.YtncpioakggaehaaDoor
open Go.RowKit Go.Sort
set_option linter.unusedSimpArgs false
set_option linter.unusedVariables false
def bytL (tb : Nat → ByteArray) (i : Nat) : List UInt8 := (tb i).data.toList
theorem bytL_eq (tb : Nat → ByteArray) (i : Nat) : tb i = bL (bytL tb i) := by unfold bL bytL; simp
theorem bytL_len (tb : Nat → ByteArray) (i : Nat) : (bytL tb i).length = (tb i).size := rfl
def btV (tb : Nat → ByteArray) (zs : List Int) (n : Nat) (lg : Int) (k : Nat) : List UInt8 := txB (bytL tb) (zat zs) (wdB (bytL tb) n) (mxB (zat zs) n).toNat lg.toNat k
theorem btV_succ (tb : Nat → ByteArray) (zs : List Int) (n : Nat) (lg : Int) (k : Nat) : btV tb zs n lg (k + 1) = btV tb zs n lg k ++ lnB (bytL tb k) (wdB (bytL tb) n) (blK (zat zs k).toNat (mxB (zat zs) n).toNat lg.toNat) (zat zs k) := rfl
def BtR (tb : Nat → ByteArray) (zs : List Int) (n : Nat) (lg : Int) (w : World) (e : Ending) (w' : World) : Prop := ∃ v er, e = .returned (.tuple #[.string v, .int .i64 er]) ∧ Below w.heap.size w w' ∧ (OkB (zat zs) n lg → v = bL (btV tb zs n lg n) ∧ er = 0) ∧ (¬ OkB (zat zs) n lg → v = bL [] ∧ er = 22)
theorem bt_bad {tb : Nat → ByteArray} {zs : List Int} {n k : Nat} {lg : Int} {w w' : World} (hb : Below w.heap.size w w') (hk : k < n) (h : blBad (zat zs k) (mxB (zat zs) n) lg) : BtR tb zs n lg w (.returned (.tuple #[.string (bL []), .int .i64 22])) w' := ⟨_, _, rfl, hb, fun q => absurd h (q k hk), fun _ => ⟨rfl, rfl⟩⟩
theorem bl_int {n g l : Int} (h : ¬ blBad n g l) : blV n g l = ((blK n.toNat g.toNat l.toNat : Nat) : Int) ∧ blE n g l = 0 ∧ blK n.toNat g.toNat l.toNat ≤ 200 := by
  unfold blBad at h
  obtain ⟨N, rfl⟩ : ∃ N : Nat, n = N := ⟨n.toNat, by omega⟩
  obtain ⟨G, rfl⟩ : ∃ G : Nat, g = G := ⟨g.toNat, by omega⟩
  obtain ⟨L, rfl⟩ : ∃ L : Nat, l = L := ⟨l.toNat, by omega⟩
  have c := bl_cast (N := N) (G := G) (L := L) (by omega) (by omega) (by omega)
  have s := bl_steps (N := N) (G := G) (L := L) (by omega)
  simp only [Int.toNat_natCast]
  exact ⟨c.2.1, c.2.2, by omega⟩
theorem btV_len {tb : Nat → ByteArray} {zs : List Int} {n : Nat} {lg : Int} (h : ∀ i, i < n → (tb i).size ≤ 60) (hz : ∀ i, i < n → -9223372036854775808 ≤ zat zs i ∧ zat zs i ≤ 9223372036854775807) : ∀ k, k ≤ n → (∀ i, i < k → ¬ blBad (zat zs i) (mxB (zat zs) n) lg) → (btV tb zs n lg k).length ≤ k * 400
  | 0, _, _ => by unfold btV; rw [txB_zero]; simp
  | k + 1, hk, ho => by
    have ih := btV_len (lg := lg) h hz k (by omega) (fun i hi => ho i (by omega))
    have hw := wdB_bd (t := bytL tb) (k := n) (fun i hi => h i hi)
    have hK := (bl_int (ho k (by omega))).2.2
    have := lnB_len (L := bytL tb k) (wd := wdB (bytL tb) n) (K := blK (zat zs k).toNat (mxB (zat zs) n).toNat lg.toNat) (n := zat zs k) (h k (by omega)) hw hK (hz k (by omega)).1 (hz k (by omega)).2
    rw [btV_succ, List.length_append]; omega
theorem cat_data (A B : ByteArray) : (A ++ B).data.toList = A.data.toList ++ B.data.toList := by simp
theorem rep61 (K : Nat) : Lib.repeatL [61] K = List.replicate K 61 := by
  have h := Lib.repeatL_replicate 61 1 K
  rw [Nat.mul_one] at h
  exact h
theorem of_bel (n : Int) (w : World) (h0 : -9223372036854775808 ≤ n) (h1 : n ≤ 9223372036854775807) (ht : Tab w) : Calls Tryd.prog 24 #[.int .i64 n] w fun e w' => e = .returned (.string ⟨(Lib.itoa n).toArray⟩) ∧ Below w.heap.size w w' :=
  (of_any n w h0 h1 ht).mono fun e w' ⟨h2, k, os, h3⟩ => ⟨h2, by rw [h3]; exact below_grow (below_drewN (Below.refl _ _) k) (Nat.le_refl _) os⟩
set_option maxRecDepth 100000 in
set_option maxHeartbeats 40000000 in
theorem btext_any (A Z : Option Addr) (ca cz n : Nat) (tb : Nat → ByteArray) (zs : List Int) (lg : Int) (w : World) (hn : zs.length = n) (h30 : n ≤ 40) (hA : RdT w A n tb) (hZ : RdI w .i64 Z zs) (hsz : ∀ i, i < n → (tb i).size ≤ 60)
    (hz : ∀ i, i < n → -9223372036854775808 ≤ zat zs i ∧ zat zs i ≤ 9223372036854775807) (hlg0 : -9223372036854775808 ≤ lg) (hlg1 : lg ≤ 9223372036854775807) (hT : Tab w) :
    Calls Tryd.prog 6 #[.slice A n ca, .slice Z n cz, .int .i64 lg] w (BtR tb zs n lg w) := by
  have HN := Lib.hid hn
  have HA := Lib.hid hA; have HZ := Lib.hid hZ; have HSZ := Lib.hid hsz; have HZB := Lib.hid hz; have HT := Lib.hid hT
  have HLG := Lib.hid (And.intro hlg0 hlg1)
  obtain ⟨R, hR⟩ : ∃ R : Ending → World → Prop, BtR tb zs n lg w = R := ⟨_, rfl⟩
  have HRR := Lib.hid hR
  rw [hR]
  clear hA hZ hsz hz hT hR hn hlg0 hlg1
  go_enter Tryd.func6, Tryd.ntmps6
  go_wp2_with fail
  go_loopw [8, 9, 24] (fun gv wv i wr => ∃ (k : Nat) (g wd : Int), k ≤ n ∧ i = .int .i64 k ∧ gv = .int .i64 g ∧ wv = .int .i64 wd ∧ Hid (g = mxB (zat zs) k) ∧ Hid (wd = (wdB (bytL tb) k : Nat)) ∧ w = wr) (fun _ _ i _ => n - (intOf i).toNat)
  case atStart => exact ⟨0, 0, 0, Nat.zero_le _, rfl, rfl, rfl, Lib.hid rfl, Lib.hid rfl, rfl⟩
  obtain ⟨k, g, wd, hk, rfl, rfl, rfl, HG, HW, rfl⟩ := hrel
  by_cases hkn : k < n
  · have hki : (k : Int) < (n : Int) := by omega
    obtain ⟨ba, oa, rfl, _, hca⟩ := rdT_row HA.out (by omega)
    obtain ⟨bz, oz, rfl, _, hcz⟩ := rdI_row HZ.out (by have := HN.out; omega)
    have c0 := hca k hkn
    have c1 : w.cell? ⟨bz, oz + k, none⟩ = some (.int .i64 (zat zs k)) := hcz k (by have := HN.out; omega)
    obtain ⟨x, hx⟩ : ∃ x, zat zs k = x := ⟨_, rfl⟩
    rw [hx] at c1
    obtain ⟨s, hs⟩ : ∃ s, tb k = s := ⟨_, rfl⟩
    rw [hs] at c0
    obtain ⟨y, hy⟩ : ∃ y : Int, (s.size : Int) = y := ⟨_, rfl⟩
    have HG1 : Hid (max g x = mxB (zat zs) (k + 1)) := Lib.hid (by rw [mxB_succ, ← HG.out, hx])
    have HW1 : Hid (max wd y = (wdB (bytL tb) (k + 1) : Nat)) := Lib.hid (by rw [wdB_succ, bytL_len, hs]; have := HW.out; omega)
    clear hca hcz hx hs
    rcases (by omega : (max g x = g ∧ x ≤ g) ∨ (max g x = x ∧ g < x)) with ⟨m1, m2⟩ | ⟨m1, m2⟩
    · rcases (by omega : (max wd y = wd ∧ y ≤ wd) ∨ (max wd y = y ∧ wd < y)) with ⟨m3, m4⟩ | ⟨m3, m4⟩
      · rw [m1] at HG1; rw [m3] at HW1
        go_wp2_with fail
        go_roundw
        case rel => first | exact ⟨k + 1, _, _, by omega, by go_num, rfl, rfl, HG1, HW1, rfl⟩ | exact ⟨k + 1, _, _, by omega, by go_num, rfl, rfl, HG1, HW1, trivial⟩ | exact ⟨k + 1, _, _, by omega, by go_num, rfl, by rw [hy], HG1, HW1, rfl⟩ | exact ⟨k + 1, _, _, by omega, by go_num, rfl, by rw [hy], HG1, HW1, trivial⟩
        case measure => simp [intOf] <;> omega
      · rw [m1] at HG1; rw [m3] at HW1
        go_wp2_with fail
        go_roundw
        case rel => first | exact ⟨k + 1, _, _, by omega, by go_num, rfl, rfl, HG1, HW1, rfl⟩ | exact ⟨k + 1, _, _, by omega, by go_num, rfl, rfl, HG1, HW1, trivial⟩ | exact ⟨k + 1, _, _, by omega, by go_num, rfl, by rw [hy], HG1, HW1, rfl⟩ | exact ⟨k + 1, _, _, by omega, by go_num, rfl, by rw [hy], HG1, HW1, trivial⟩
        case measure => simp [intOf] <;> omega
    · rcases (by omega : (max wd y = wd ∧ y ≤ wd) ∨ (max wd y = y ∧ wd < y)) with ⟨m3, m4⟩ | ⟨m3, m4⟩
      · rw [m1] at HG1; rw [m3] at HW1
        go_wp2_with fail
        go_roundw
        case rel => first | exact ⟨k + 1, _, _, by omega, by go_num, rfl, rfl, HG1, HW1, rfl⟩ | exact ⟨k + 1, _, _, by omega, by go_num, rfl, rfl, HG1, HW1, trivial⟩ | exact ⟨k + 1, _, _, by omega, by go_num, rfl, by rw [hy], HG1, HW1, rfl⟩ | exact ⟨k + 1, _, _, by omega, by go_num, rfl, by rw [hy], HG1, HW1, trivial⟩
        case measure => simp [intOf] <;> omega
      · rw [m1] at HG1; rw [m3] at HW1
        go_wp2_with fail
        go_roundw
        case rel => first | exact ⟨k + 1, _, _, by omega, by go_num, rfl, rfl, HG1, HW1, rfl⟩ | exact ⟨k + 1, _, _, by omega, by go_num, rfl, rfl, HG1, HW1, trivial⟩ | exact ⟨k + 1, _, _, by omega, by go_num, rfl, by rw [hy], HG1, HW1, rfl⟩ | exact ⟨k + 1, _, _, by omega, by go_num, rfl, by rw [hy], HG1, HW1, trivial⟩
        case measure => simp [intOf] <;> omega
  have hkn2 : k = n := by omega
  rw [hkn2] at HG HW ⊢
  clear hkn hk hkn2
  obtain ⟨W1, hW1⟩ : ∃ W1 : Nat, wdB (bytL tb) n = W1 := ⟨_, rfl⟩
  have hW60 : W1 ≤ 60 := by rw [← hW1]; exact wdB_bd (fun i hi => HSZ.out i hi)
  have hwd : wd = (W1 : Int) := by rw [HW.out, hW1]
  subst hwd
  have HWD := Lib.hid hW1
  clear HW hW1
  have hg0 : 0 ≤ g := by rw [HG.out]; exact mxB_nn _ _
  have hg1 : g ≤ 9223372036854775807 := by rw [HG.out]; exact mxB_bd (fun i hi => (HZB.out i hi).2)
  have HGB := Lib.hid (And.intro hg0 hg1)
  clear hg0 hg1
  have HU := Lib.hid (Bu.new w (B := w.heap.size) (Nat.le_refl _))
  have EE := Lib.hid ((Below.refl w.heap.size w).alloc (Nat.le_refl _) (.cells #[.pointer none, .slice none 0 0] 44))
  have HT0 := Lib.hid HT.out
  clear HT
  go_wp2_with fail
  go_loopg [42] n (fun gh i wr => ∃ k : Nat, k ≤ n ∧ gh = n - k ∧ i = .int .i64 k ∧ Hid (Bu wr w.heap.size w.heap.size (btV tb zs n lg k)) ∧ Hid (Below w.heap.size w wr) ∧ Hid (∀ i, i < k → ¬ blBad (zat zs i) (mxB (zat zs) n) lg))
  case atStart => exact ⟨0, Nat.zero_le _, rfl, rfl, HU, EE, Lib.hid (fun i hi => absurd hi (Nat.not_lt_zero _))⟩
  case round =>
    clear HU EE
    obtain ⟨k, hk, rfl, rfl, HU, EE, HO⟩ := hrel
    rename World => V
    have HT := Lib.hid (tab_next HT0.out EE.out)
    by_cases hkn : k < n
    · have hki : (k : Int) < (n : Int) := by omega
      obtain ⟨ba, oa, rfl, hlta, hca⟩ := rdT_row HA.out (by omega)
      obtain ⟨bz, oz, rfl, hltz, hcz⟩ := rdI_row HZ.out (by have := HN.out; omega)
      have c0 := (EE.out.cell (p := ⟨ba, oa + k, none⟩) hlta).trans (hca k hkn)
      have c1 : V.cell? ⟨bz, oz + k, none⟩ = some (.int .i64 (zat zs k)) := (EE.out.cell (p := ⟨bz, oz + k, none⟩) hltz).trans (hcz k (by have := HN.out; omega))
      have hzk := HZB.out k hkn
      have hlk := HSZ.out k hkn
      have hbl := btV_len HSZ.out HZB.out k hk HO.out
      have hlast : btV tb zs n lg (k + 1) = btV tb zs n lg k ++ lnB (bytL tb k) W1 (blK (zat zs k).toNat g.toNat lg.toNat) (zat zs k) := by rw [btV_succ, HWD.out, HG.out]
      obtain ⟨x, hx⟩ : ∃ x, zat zs k = x := ⟨_, rfl⟩
      rw [hx] at c1 hzk hlast
      have HLS := Lib.hid hlast
      obtain ⟨LS, hLS⟩ : ∃ LS, bytL tb k = LS := ⟨_, rfl⟩
      have hts : tb k = bL LS := by rw [← hLS]; exact bytL_eq tb k
      have hLS60 : LS.length ≤ 60 := by rw [← hLS]; exact hlk
      rw [hts] at c0
      rw [hLS] at HLS
      have KL := Lib.hid (fun W => long_any x g lg W hzk.1 hzk.2 (by have := HGB.out; omega) HGB.out.2 HLG.out.1 HLG.out.2)
      have HXE := Lib.hid hx
      have HHZ := Lib.hid hzk
      have HBL := Lib.hid (show (btV tb zs n lg k).length ≤ 16000 by omega)
      clear hca hcz hx hLS hlk hts hzk hlast hbl
      by_cases hbad : blBad x g lg
      · obtain ⟨e1, e2⟩ := bl_bad hbad
        rw [e1, e2] at KL
        have HF : Hid (∀ q, R (.returned (.tuple #[.string (bL []), .int .i64 22])) (V.drewN q)) := Lib.hid (fun q => by
          rw [← HRR.out]
          exact bt_bad (below_drewN EE.out q) hkn (by rw [HXE.out, ← HG.out]; exact hbad))
        clear e1 e2 hbad HU
        go_wp2_with fail
        refine (KL.out _).mono ?_
        rintro e V1 ⟨rfl, q, rfl⟩
        go_wp2_with fail
        exact HF.out q
      · obtain ⟨e1, e2, e3⟩ := bl_int hbad
        rw [e1, e2] at KL
        obtain ⟨K, hK⟩ : ∃ K, blK x.toNat g.toNat lg.toNat = K := ⟨_, rfl⟩
        rw [hK] at KL HLS e3
        have HO2 : Hid (∀ i, i < k + 1 → ¬ blBad (zat zs i) (mxB (zat zs) n) lg) := Lib.hid (fun i hi => by
          by_cases q : i = k
          · rw [q, HXE.out, ← HG.out]; exact hbad
          · exact HO.out i (by omega))
        clear e1 e2 hbad hK HO
        go_wp2_with fail
        refine (KL.out _).mono ?_
        rintro e V1 ⟨rfl, q, rfl⟩
        have bq : Below V.heap.size V (V.drewN q) := below_drewN (Below.refl _ _) q
        have c1b : (V.drewN q).cell? ⟨bz, oz + k, none⟩ = some (.int .i64 x) := c1
        replace HU := Lib.hid (HU.out.next bq)
        replace HT := Lib.hid (tab_next HT.out bq)
        have hEq := EE.out.trans (bq.mono EE.out.size)
        clear EE
        have EE := Lib.hid hEq
        clear hEq bq c0 c1 KL
        obtain ⟨V1, hV1⟩ : ∃ V1, V.drewN q = V1 := ⟨_, rfl⟩
        rw [hV1] at c1b HU HT EE ⊢
        clear hV1
        have HX := Lib.hid (at1 c1b)
        clear c1b
        have HUD : Hid (Bu V1.drew w.heap.size w.heap.size (btV tb zs n lg k)) := Lib.hid (HU.out.next (Below.refl V1.heap.size V1).drew)
        have HTD : Hid (Tab V1.drew) := Lib.hid (tab_next HT.out (Below.refl V1.heap.size V1).drew)
        clear HU HT
        have KP := Lib.hid (fun W => pad_any LS W1 W (by omega) (by omega))
        have KR := Lib.hid (fun W => Tryd.strings_Repeat (ByteArray.mk #[61]) K W (by omega) (by show 1 * K ≤ _; omega))
        have KO := Lib.hid (fun W ht => of_bel x W HHZ.out.1 HHZ.out.2 ht)
        have hPL := padL_len LS W1
        have hIT := Lib.itoa_length_le x HHZ.out.1 HHZ.out.2
        obtain ⟨LP, hLP⟩ : ∃ LP, padL LS W1 = LP := ⟨_, rfl⟩
        obtain ⟨LI, hLI⟩ : ∃ LI, Lib.itoa x = LI := ⟨_, rfl⟩
        have hRP : Lib.repeatL (ByteArray.mk #[61]).data.toList K = List.replicate K 61 := rep61 K
        obtain ⟨LR, hLR⟩ : ∃ LR : List UInt8, List.replicate K 61 = LR := ⟨_, rfl⟩
        have hRl : LR.length = K := by rw [← hLR, List.length_replicate]
        rw [hLP] at KP hPL; rw [hLI] at KO hIT; rw [hRP, hLR] at KR
        have HLN : Hid (lnB LS W1 K x = LP ++ [32, 124] ++ LR ++ [32] ++ LI ++ [10]) := Lib.hid (by unfold lnB; rw [hLP, hLR, hLI])
        have HLENS := Lib.hid (And.intro hPL (And.intro hIT hRl))
        have s1 : (bL LP).size = LP.length := bL_size _
        obtain ⟨bP, hbP⟩ : ∃ b, bL LP = b := ⟨_, rfl⟩
        obtain ⟨bR, hbR⟩ : ∃ b, ByteArray.mk LR.toArray = b := ⟨_, rfl⟩
        obtain ⟨bI, hbI⟩ : ∃ b, ByteArray.mk LI.toArray = b := ⟨_, rfl⟩
        rw [hbP] at KP s1; rw [hbR] at KR; rw [hbI] at KO
        have HDP : Hid (bP.data.toList = LP ∧ bR.data.toList = LR ∧ bI.data.toList = LI) := Lib.hid ⟨by rw [← hbP]; rfl, by rw [← hbR], by rw [← hbI]⟩
        have sP : bP.size ≤ 60 := by omega
        have sR : bR.size ≤ 200 := by have : bR.data.toList.length = K := by rw [HDP.out.2.1]; exact hRl
                                      have e : bR.size = bR.data.toList.length := rfl
                                      omega
        have sI : bI.size ≤ 21 := by have e : bI.size = bI.data.toList.length := rfl
                                     rw [HDP.out.2.2] at e; omega
        have y1 : ¬ 9223372036854775807 < bP.size + 2 := by omega
        have y2 : ¬ 9223372036854775807 < bP.size + 2 + bR.size := by omega
        have y3 : ¬ 9223372036854775807 < bP.size + 2 + bR.size + 1 := by omega
        have y4 : ¬ 9223372036854775807 < bP.size + 2 + bR.size + 1 + bI.size := by omega
        have y5 : ¬ 9223372036854775807 < bP.size + 2 + bR.size + 1 + bI.size + 1 := by omega
        have HSS := Lib.hid (And.intro sP (And.intro sR sI))
        clear hLP hLI hLR hbP hbR hbI hPL hIT hRl s1 sP sR sI hRP
        have kX0 : V1.cell? ⟨bz, oz + k, none⟩ = some (.int .i64 x) := HX.out 0 _ rfl
        go_wp2_with fail
        have sK : ∀ X, At X bz (oz + k) #[.int .i64 x] → (fun X => X.cell? ⟨bz, oz + k, none⟩ = some (.int .i64 x)) X := fun X hX => hX 0 _ rfl
        have LX0 := Lib.hid (HX.out.drew)
        have E0 := Lib.hid (EE.out.drew)
        clear kX0
        refine wp_region_held_drew (S := (fun X => X.cell? ⟨bz, oz + k, none⟩ = some (.int .i64 x))) (by kernel_rfl) (sK _ LX0.out) (fun hHeld => ?_)
        clear hHeld
        refine wpAnyH_take (i := 0) (v := ?_) rfl (by kernel_rfl) (by kernel_rfl) (by kernel_rfl) (fun _ _ _ h => h) (Or.inl ⟨by rfl, ?_⟩) (sK _ LX0.out) ?_
        rotate_left
        · (intro wS hSw; (try dsimp only at hSw); go_simp; try with_reducible rfl)
        simp only [Act.put, List.getElem_toArray, List.getElem_cons_zero, List.getElem_cons_succ, List.setIfInBounds_toArray, List.set_cons_zero, List.set_cons_succ]
        refine wpAnyH_take (i := 1) (v := ?_) rfl (by kernel_rfl) (by kernel_rfl) (by kernel_rfl) (fun _ _ _ h => h) (Or.inl ⟨by rfl, ?_⟩) (sK _ LX0.out) ?_
        rotate_left
        · (intro wS hSw; (try dsimp only at hSw); go_simp; try with_reducible rfl)
        simp only [Act.put, List.getElem_toArray, List.getElem_cons_zero, List.getElem_cons_succ, List.setIfInBounds_toArray, List.set_cons_zero, List.set_cons_succ]
        refine wpAnyH_take (i := 4) (v := ?_) rfl (by kernel_rfl) (by kernel_rfl) (by kernel_rfl) (fun _ _ _ h => h) (Or.inl ⟨by rfl, ?_⟩) (sK _ LX0.out) ?_
        rotate_left
        · (intro wS hSw; (try dsimp only at hSw); go_simp; try with_reducible rfl)
        simp only [Act.put, List.getElem_toArray, List.getElem_cons_zero, List.getElem_cons_succ, List.setIfInBounds_toArray, List.set_cons_zero, List.set_cons_succ]
        refine wpAnyH_take (i := 8) (v := ?_) rfl (by kernel_rfl) (by kernel_rfl) (by kernel_rfl) (fun _ _ _ h => h) (Or.inl ⟨by rfl, ?_⟩) (sK _ LX0.out) ?_
        rotate_left
        · (intro wS hSw; (try dsimp only at hSw); go_simp; try with_reducible rfl)
        simp only [Act.put, List.getElem_toArray, List.getElem_cons_zero, List.getElem_cons_succ, List.setIfInBounds_toArray, List.set_cons_zero, List.set_cons_succ]
        refine wpAnyH_take (i := 9) (v := ?_) rfl (by kernel_rfl) (by kernel_rfl) (by kernel_rfl) (fun _ _ _ h => h) (Or.inl ⟨by rfl, ?_⟩) (sK _ LX0.out) ?_
        rotate_left
        · (intro wS hSw; (try dsimp only at hSw); go_simp; try with_reducible rfl)
        simp only [Act.put, List.getElem_toArray, List.getElem_cons_zero, List.getElem_cons_succ, List.setIfInBounds_toArray, List.set_cons_zero, List.set_cons_succ]
        refine wpAnyH_take (i := 10) (v := ?_) rfl (by kernel_rfl) (by kernel_rfl) (by kernel_rfl) (fun _ _ _ h => h) (Or.inl ⟨by rfl, ?_⟩) (sK _ LX0.out) ?_
        rotate_left
        · (intro wS hSw; (try dsimp only at hSw); go_simp; try with_reducible rfl)
        simp only [Act.put, List.getElem_toArray, List.getElem_cons_zero, List.getElem_cons_succ, List.setIfInBounds_toArray, List.set_cons_zero, List.set_cons_succ]
        refine wpAnyH_take (i := 11) (v := ?_) rfl (by kernel_rfl) (by kernel_rfl) (by kernel_rfl) (fun _ _ _ h => h) (Or.inl ⟨by rfl, ?_⟩) (sK _ LX0.out) ?_
        rotate_left
        · (intro wS hSw; (try dsimp only at hSw); go_simp; try with_reducible rfl)
        simp only [Act.put, List.getElem_toArray, List.getElem_cons_zero, List.getElem_cons_succ, List.setIfInBounds_toArray, List.set_cons_zero, List.set_cons_succ]
        refine wpAnyH_ready (rs := [2]) (by kernel_rfl) (by simp) ?_
        refine AllReadyH.cons rfl (fun K hK => ?_) AllReadyH.nil
        go_simp
        refine (KP.out _).mono ?_
        rintro e r1 ⟨rfl, hb⟩
        have LX1 := Lib.hid (At.next (w := V1.drew) LX0.out hb)
        have E1 := Lib.hid (E0.out.trans (hb.mono E0.out.size))
        replace HUD := Lib.hid (HUD.out.next hb); replace HTD := Lib.hid (tab_next HTD.out hb)
        clear hb
        go_wp2_with fail
        refine hK.out _ _ (sK _ LX1.out) (fun hHeld => ?_)
        clear hK K hHeld
        try simp only [Act.put, List.getElem_toArray, List.getElem_cons_zero, List.getElem_cons_succ, List.setIfInBounds_toArray, List.set_cons_zero, List.set_cons_succ]
        refine wpAnyH_take (i := 3) (v := ?_) rfl (by kernel_rfl) (by kernel_rfl) (by kernel_rfl) (fun _ _ _ h => h) (Or.inl ⟨by rfl, ?_⟩) (sK _ LX1.out) ?_
        rotate_left
        · (intro wS hSw; (try dsimp only at hSw); go_simp; try with_reducible rfl)
        simp only [Act.put, List.getElem_toArray, List.getElem_cons_zero, List.getElem_cons_succ, List.setIfInBounds_toArray, List.set_cons_zero, List.set_cons_succ]
        refine wpAnyH_ready (rs := [5]) (by kernel_rfl) (by simp) ?_
        refine AllReadyH.cons rfl (fun K hK => ?_) AllReadyH.nil
        go_simp
        refine (KR.out _).mono ?_
        rintro e r2 ⟨rfl, hb⟩
        have LX2 := Lib.hid (At.next (w := r1) LX1.out hb)
        have E2 := Lib.hid (E1.out.trans (hb.mono E1.out.size))
        replace HUD := Lib.hid (HUD.out.next hb); replace HTD := Lib.hid (tab_next HTD.out hb)
        clear hb
        go_wp2_with fail
        refine hK.out _ _ (sK _ LX2.out) (fun hHeld => ?_)
        clear hK K hHeld
        try simp only [Act.put, List.getElem_toArray, List.getElem_cons_zero, List.getElem_cons_succ, List.setIfInBounds_toArray, List.set_cons_zero, List.set_cons_succ]
        refine wpAnyH_take (i := 6) (v := ?_) rfl (by kernel_rfl) (by kernel_rfl) (by kernel_rfl) (fun _ _ _ h => h) (Or.inl ⟨by rfl, ?_⟩) (sK _ LX2.out) ?_
        rotate_left
        · (intro wS hSw; (try dsimp only at hSw); go_simp; try with_reducible rfl)
        simp only [Act.put, List.getElem_toArray, List.getElem_cons_zero, List.getElem_cons_succ, List.setIfInBounds_toArray, List.set_cons_zero, List.set_cons_succ]
        refine wpAnyH_take (i := 7) (v := ?_) rfl (by kernel_rfl) (by kernel_rfl) (by kernel_rfl) (fun _ _ _ h => h) (Or.inl ⟨by rfl, ?_⟩) (sK _ LX2.out) ?_
        rotate_left
        · (intro wS hSw; (try dsimp only at hSw); go_simp; try with_reducible rfl)
        simp only [Act.put, List.getElem_toArray, List.getElem_cons_zero, List.getElem_cons_succ, List.setIfInBounds_toArray, List.set_cons_zero, List.set_cons_succ]
        refine wpAnyH_ready (rs := [12]) (by kernel_rfl) (by simp) ?_
        refine AllReadyH.cons rfl (fun K hK => ?_) AllReadyH.nil
        go_simp
        refine (KO.out _ HTD.out).mono ?_
        rintro e r3 ⟨rfl, hb⟩
        have LX3 := Lib.hid (At.next (w := r2) LX2.out hb)
        have E3 := Lib.hid (E2.out.trans (hb.mono E2.out.size))
        replace HUD := Lib.hid (HUD.out.next hb); replace HTD := Lib.hid (tab_next HTD.out hb)
        clear hb
        go_wp2_with fail
        refine hK.out _ _ (sK _ LX3.out) (fun hHeld => ?_)
        clear hK K hHeld
        try simp only [Act.put, List.getElem_toArray, List.getElem_cons_zero, List.getElem_cons_succ, List.setIfInBounds_toArray, List.set_cons_zero, List.set_cons_succ]
        refine wpAnyH_take (i := 13) (v := ?_) rfl (by kernel_rfl) (by kernel_rfl) (by kernel_rfl) (fun _ _ _ h => h) (Or.inl ⟨by rfl, ?_⟩) (sK _ LX3.out) ?_
        rotate_left
        · (intro wS hSw; (try dsimp only at hSw); go_simp; try with_reducible rfl)
        simp only [Act.put, List.getElem_toArray, List.getElem_cons_zero, List.getElem_cons_succ, List.setIfInBounds_toArray, List.set_cons_zero, List.set_cons_succ]
        refine wpAnyH_take (i := 14) (v := ?_) rfl (by kernel_rfl) (by kernel_rfl) (by kernel_rfl) (fun _ _ _ h => h) (Or.inl ⟨by rfl, ?_⟩) (sK _ LX3.out) ?_
        rotate_left
        · (intro wS hSw; (try dsimp only at hSw); go_simp; try with_reducible rfl)
        simp only [Act.put, List.getElem_toArray, List.getElem_cons_zero, List.getElem_cons_succ, List.setIfInBounds_toArray, List.set_cons_zero, List.set_cons_succ]
        refine wpAnyH_ready (rs := [15]) (by kernel_rfl) (by simp) ?_
        refine AllReadyH.cons rfl (fun K2 hK => ?_) AllReadyH.nil
        go_simp
        refine (ws_any w.heap.size w.heap.size (btV tb zs n lg k) _ _ HUD.out (by have := HBL.out; have := HSS.out; have a1 : (ByteArray.mk #[32, 124]).size = 2 := rfl; have a2 : (ByteArray.mk #[32]).size = 1 := rfl; have a3 : (ByteArray.mk #[10]).size = 1 := rfl; simp only [ByteArray.size_append]; omega) E3.out.size).mono ?_
        rintro e r9 ⟨rfl, hbu, hb⟩
        have HUN := Lib.hid hbu
        have E9 := Lib.hid (E3.out.trans hb)
        have LX9 : Hid (At r9 bz (oz + k) #[.int .i64 x]) := Lib.hid (at1 ((hb.cell (p := ⟨bz, oz + k, none⟩) hltz).trans (LX3.out 0 _ rfl)))
        clear hb hbu
        go_wp2_with fail
        refine hK.out _ _ (sK _ LX9.out) (fun hHeld => ?_)
        clear hK K2 hHeld
        try simp only [Act.put, List.getElem_toArray, List.getElem_cons_zero, List.getElem_cons_succ, List.setIfInBounds_toArray, List.set_cons_zero, List.set_cons_succ]
        refine wpAnyH_done (by kernel_rfl) ?_ _
        go_wp2_with fail
        have HUF : Hid (Bu r9 w.heap.size w.heap.size (btV tb zs n lg (k + 1))) := Lib.hid (by
          have h := HUN.out
          rw [HLS.out, HLN.out]
          simp only [cat_data, HDP.out.1, HDP.out.2.1, HDP.out.2.2] at h
          simpa using h)
        go_roundg (n - (k + 1))
        case measure => omega
        case rel => exact ⟨k + 1, by omega, rfl, by go_num, HUF, E9, HO2⟩
    · obtain rfl : k = n := by omega
      have KS := Lib.hid (str_any w.heap.size w.heap.size _ V HU.out EE.out.size)
      have HOK : Hid (OkB (zat zs) k lg) := Lib.hid HO.out
      clear HU HO
      go_wp2_with fail
      refine KS.out.mono ?_
      rintro e V2 ⟨rfl, hb⟩
      have E2 := Lib.hid (EE.out.trans hb)
      clear hb
      go_wp2_with fail
      rw [← HRR.out]
      exact ⟨_, _, rfl, E2.out, fun _ => ⟨rfl, rfl⟩, fun q => absurd HOK.out q⟩
end Go.Proofs.YtncpioakggaehaaDoor
