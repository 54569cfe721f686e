/- Bars: the document's Text. -/
import Derived.Test.YtncpioakggaehaaDoorRows
import Derived.Test.YtncpioakggaehaaDoorRowKit
import Derived.Test.YtncpioakggaehaaDoorShelf
import Derived.Test.YtncpioakggaehaaDoorBlocks
import Derived.Test.YtncpioakggaehaaDoorSlicesEq
import Derived.Test.YtncpioakggaehaaDoorAtKit
import Derived.Test.YtncpioakggaehaaDoorRowT
import Derived.Test.YtncpioakggaehaaDoorTab
import Derived.Test.YtncpioakggaehaaDoorDigB
import Derived.Test.YtncpioakggaehaaDoorDigE
import Derived.Test.YtncpioakggaehaaDoorBarsA
import Derived.Test.YtncpioakggaehaaDoorBuA
import Derived.Test.YtncpioakggaehaaDoorBarQ
import Derived.WalkKit
import Derived.IntWalk
import Derived.Lib.Hide
import Derived.Lib.ItoaLen
import Derived.WalkSpells
import Derived.WalkLawsBesides
import Derived.Laws.IdiomStrings
import Derived.Laws.OwnMore
import Derived.OwnWalk
import Derived.Deep.QuietTactic
import Derived.BigQuiet
import Derived.BigRegion
import Derived.Deep.RegionHeld3
import Derived.Deep.LoopGhost
namespace Go.Proofs.YtncpioakggaehaaDoor
open Go.RowKit Go.Sort
set_option linter.unusedSimpArgs false
set_option linter.unusedVariables false
theorem bL_app (A B : List UInt8) : bL A ++ bL B = bL (A ++ B) := by unfold bL; simp [ByteArray.mk_append_mk]
theorem lit_bL (A : List UInt8) : ByteArray.mk A.toArray = bL A := rfl
set_option maxRecDepth 100000 in
set_option maxHeartbeats 40000000 in
theorem dtext_any (A Z : Option Addr) (ca cz n : Nat) (tb : Nat → ByteArray) (zs : List Int) (lg : Int) (w : World) (hn : zs.length = n) (h30 : n ≤ 40) (hA : RdT w A n tb) (hZ : RdI w .i64 Z zs) (hsz : ∀ i, i < n → (tb i).size ≤ 60)
    (hz : ∀ i, i < n → -9223372036854775808 ≤ zat zs i ∧ zat zs i ≤ 9223372036854775807) :
    Calls Tryd.prog 7 #[.slice A n ca, .slice Z n cz, .int .i64 lg] w (BtR tb zs n lg w) := by
  have HN := Lib.hid hn
  have HA := Lib.hid hA; have HZ := Lib.hid hZ; have HSZ := Lib.hid hsz; have HZB := Lib.hid hz
  obtain ⟨R, hR⟩ : ∃ R : Ending → World → Prop, BtR tb zs n lg w = R := ⟨_, rfl⟩
  have HRR := Lib.hid hR
  rw [hR]
  clear hA hZ hsz hz hR hn
  go_enter Tryd.func7, Tryd.ntmps7
  go_wp2_with fail
  go_loopw [8, 9, 10] (fun gv wv i wr => ∃ (k : Nat) (g wd : Int), k ≤ n ∧ i = .int .i64 k ∧ gv = .int .i64 g ∧ wv = .int .i64 wd ∧ Hid (g = mxB (zat zs) k) ∧ Hid (wd = (wdB (bytL tb) k : Nat)) ∧ w = wr) (fun _ _ i _ => n - (intOf i).toNat)
  case atStart => exact ⟨0, 0, 0, Nat.zero_le _, rfl, rfl, rfl, Lib.hid rfl, Lib.hid rfl, rfl⟩
  obtain ⟨k, g, wd, hk, rfl, rfl, rfl, HG, HW, rfl⟩ := hrel
  by_cases hkn : k < n
  · have hki : (k : Int) < (n : Int) := by omega
    obtain ⟨ba, oa, rfl, _, hca⟩ := rdT_row HA.out (by omega)
    obtain ⟨bz, oz, rfl, _, hcz⟩ := rdI_row HZ.out (by have := HN.out; omega)
    have c0 := hca k hkn
    have c1 : w.cell? ⟨bz, oz + k, none⟩ = some (.int .i64 (zat zs k)) := hcz k (by have := HN.out; omega)
    obtain ⟨x, hx⟩ : ∃ x, zat zs k = x := ⟨_, rfl⟩
    rw [hx] at c1
    obtain ⟨s, hs⟩ : ∃ s, tb k = s := ⟨_, rfl⟩
    rw [hs] at c0
    obtain ⟨y, hy⟩ : ∃ y : Int, (s.size : Int) = y := ⟨_, rfl⟩
    have HG1 : Hid (max g x = mxB (zat zs) (k + 1)) := Lib.hid (by rw [mxB_succ, ← HG.out, hx])
    have HW1 : Hid (max wd y = (wdB (bytL tb) (k + 1) : Nat)) := Lib.hid (by rw [wdB_succ, bytL_len, hs]; have := HW.out; omega)
    clear hca hcz hx hs
    by_cases h1 : g < x
    · rw [show max g x = x by omega] at HG1
      by_cases h2 : wd < y
      · rw [show max wd y = y by omega] at HW1
        go_wp2_with fail
        go_roundw
        case rel => first | exact ⟨k + 1, _, _, by omega, by go_num, rfl, rfl, HG1, HW1, rfl⟩ | exact ⟨k + 1, _, _, by omega, by go_num, rfl, rfl, HG1, HW1, trivial⟩ | exact ⟨k + 1, _, _, by omega, by go_num, rfl, by rw [hy], HG1, HW1, rfl⟩ | exact ⟨k + 1, _, _, by omega, by go_num, rfl, by rw [hy], HG1, HW1, trivial⟩
        case measure => simp [intOf] <;> omega
      · rw [show max wd y = wd by omega] at HW1
        go_wp2_with fail
        go_roundw
        case rel => first | exact ⟨k + 1, _, _, by omega, by go_num, rfl, rfl, HG1, HW1, rfl⟩ | exact ⟨k + 1, _, _, by omega, by go_num, rfl, rfl, HG1, HW1, trivial⟩ | exact ⟨k + 1, _, _, by omega, by go_num, rfl, by rw [hy], HG1, HW1, rfl⟩ | exact ⟨k + 1, _, _, by omega, by go_num, rfl, by rw [hy], HG1, HW1, trivial⟩
        case measure => simp [intOf] <;> omega
    · rw [show max g x = g by omega] at HG1
      by_cases h2 : wd < y
      · rw [show max wd y = y by omega] at HW1
        go_wp2_with fail
        go_roundw
        case rel => first | exact ⟨k + 1, _, _, by omega, by go_num, rfl, rfl, HG1, HW1, rfl⟩ | exact ⟨k + 1, _, _, by omega, by go_num, rfl, rfl, HG1, HW1, trivial⟩ | exact ⟨k + 1, _, _, by omega, by go_num, rfl, by rw [hy], HG1, HW1, rfl⟩ | exact ⟨k + 1, _, _, by omega, by go_num, rfl, by rw [hy], HG1, HW1, trivial⟩
        case measure => simp [intOf] <;> omega
      · rw [show max wd y = wd by omega] at HW1
        go_wp2_with fail
        go_roundw
        case rel => first | exact ⟨k + 1, _, _, by omega, by go_num, rfl, rfl, HG1, HW1, rfl⟩ | exact ⟨k + 1, _, _, by omega, by go_num, rfl, rfl, HG1, HW1, trivial⟩ | exact ⟨k + 1, _, _, by omega, by go_num, rfl, by rw [hy], HG1, HW1, rfl⟩ | exact ⟨k + 1, _, _, by omega, by go_num, rfl, by rw [hy], HG1, HW1, trivial⟩
        case measure => simp [intOf] <;> omega
  have hkn2 : k = n := by omega
  rw [hkn2] at HG HW ⊢
  clear hkn hk hkn2
  obtain ⟨W1, hW1⟩ : ∃ W1 : Nat, wdB (bytL tb) n = W1 := ⟨_, rfl⟩
  have hW60 : W1 ≤ 60 := by rw [← hW1]; exact wdB_bd (fun i hi => HSZ.out i hi)
  have hwd : wd = (W1 : Int) := by rw [HW.out, hW1]
  subst hwd
  have HWD := Lib.hid hW1
  clear HW hW1
  have hg0 : 0 ≤ g := by rw [HG.out]; exact mxB_nn _ _
  have hg1 : g ≤ 9223372036854775807 := by rw [HG.out]; exact mxB_bd (fun i hi => (HZB.out i hi).2)
  have HGB := Lib.hid (And.intro hg0 hg1)
  clear hg0 hg1
  go_wp2_with fail
  go_loopg [11, 12] n (fun gh sv i wr => ∃ (k : Nat) (t : ByteArray), k ≤ n ∧ gh = n - k ∧ i = .int .i64 k ∧ sv = .string t ∧ Hid (t = bL (btV tb zs n lg k)) ∧ Hid (Below w.heap.size w wr) ∧ Hid (∀ i, i < k → ¬ blBad (zat zs i) (mxB (zat zs) n) lg))
  case atStart => exact ⟨0, _, Nat.zero_le _, rfl, rfl, rfl, Lib.hid rfl, Lib.hid (Below.refl _ _), Lib.hid (fun i hi => absurd hi (Nat.not_lt_zero _))⟩
  case round =>
    obtain ⟨k, t, hk, rfl, rfl, rfl, HU, EE, HO⟩ := hrel
    rename World => V
    by_cases hkn : k < n
    · have hki : (k : Int) < (n : Int) := by omega
      obtain ⟨ba, oa, rfl, hlta, hca⟩ := rdT_row HA.out (by omega)
      obtain ⟨bz, oz, rfl, hltz, hcz⟩ := rdI_row HZ.out (by have := HN.out; omega)
      have c0 := (EE.out.cell (p := ⟨ba, oa + k, none⟩) hlta).trans (hca k hkn)
      have c1 : V.cell? ⟨bz, oz + k, none⟩ = some (.int .i64 (zat zs k)) := (EE.out.cell (p := ⟨bz, oz + k, none⟩) hltz).trans (hcz k (by have := HN.out; omega))
      have hzk := HZB.out k hkn
      have hlk := HSZ.out k hkn
      have hbl := btV_len HSZ.out HZB.out k hk HO.out
      have hts0 : t.size ≤ 16000 := by rw [HU.out, bL_size]; omega
      have hlast : btV tb zs n lg (k + 1) = btV tb zs n lg k ++ lnB (bytL tb k) W1 (blK (zat zs k).toNat g.toNat lg.toNat) (zat zs k) := by rw [btV_succ, HWD.out, HG.out]
      obtain ⟨x, hx⟩ : ∃ x, zat zs k = x := ⟨_, rfl⟩
      rw [hx] at c1 hzk hlast
      have HLS := Lib.hid hlast
      obtain ⟨LS, hLS⟩ : ∃ LS, bytL tb k = LS := ⟨_, rfl⟩
      have hts : tb k = bL LS := by rw [← hLS]; exact bytL_eq tb k
      have hLS60 : LS.length ≤ 60 := by rw [← hLS]; exact hlk
      rw [hts] at c0
      rw [hLS] at HLS
      have HXE := Lib.hid hx
      have HHZ := Lib.hid hzk
      clear hca hcz hx hLS hlk hts hzk hlast hbl
      by_cases hbad : blBad x g lg
      · have KL := Lib.hid (rlong_bad x g lg V hbad)
        have HF : Hid (R (.returned (.tuple #[.string (bL []), .int .i64 22])) V) := Lib.hid (by
          rw [← HRR.out]
          exact bt_bad EE.out hkn (by rw [HXE.out, ← HG.out]; exact hbad))
        clear hbad HU
        go_wp2_with fail
        refine KL.out.mono ?_
        rintro e V1 ⟨rfl, rfl⟩
        go_wp2_with fail
        exact HF.out
      · obtain ⟨e1, e2, e3⟩ := bl_int hbad
        obtain ⟨K, hK⟩ : ∃ K, blK x.toNat g.toNat lg.toNat = K := ⟨_, rfl⟩
        have KL : Calls Tryd.prog 26 #[.int .i64 x, .int .i64 g, .int .i64 lg] V fun e w' => e = .returned (.tuple #[.int .i64 (K : Int), .int .i64 0]) ∧ V = w' := by
          have hb := hbad
          unfold blBad at hb
          have h := rlong_ok x.toNat g.toNat lg.toNat V (by omega) (by have := HGB.out; omega) (by omega) (by omega)
          rw [hK, show ((x.toNat : Nat) : Int) = x by omega, show ((g.toNat : Nat) : Int) = g by omega, show ((lg.toNat : Nat) : Int) = lg by omega] at h
          exact h
        have KL := Lib.hid KL
        rw [hK] at HLS e3
        have HO2 : Hid (∀ i, i < k + 1 → ¬ blBad (zat zs i) (mxB (zat zs) n) lg) := Lib.hid (fun i hi => by
          by_cases q : i = k
          · rw [q, HXE.out, ← HG.out]; exact hbad
          · exact HO.out i (by omega))
        clear e1 e2 hbad hK HO
        have KP := Lib.hid (rpad_any LS W1 V hW60 (by omega))
        have hPL := padL_len LS W1
        obtain ⟨LP, hLP⟩ : ∃ LP, padL LS W1 = LP := ⟨_, rfl⟩
        rw [hLP] at KP hPL
        obtain ⟨bP, hbP⟩ : ∃ b, bL LP = b := ⟨_, rfl⟩
        have sP : bP.size ≤ 60 := by rw [← hbP, bL_size]; omega
        rw [hbP] at KP
        have HBP := Lib.hid hbP.symm
        have HLPP := Lib.hid hLP
        clear hbP hLP hPL
        have y1 : ¬ 9223372036854775807 < bP.size + 2 := by omega
        have y2 : ¬ 9223372036854775807 < t.size + (bP.size + 2) := by omega
        go_wp2_with fail
        refine KL.out.mono ?_
        rintro e V1 ⟨rfl, rfl⟩
        go_wp2_with fail
        refine KP.out.mono ?_
        rintro e V1 ⟨rfl, hV⟩
        replace hV := hV.symm
        subst hV
        go_wp2_with fail
        clear y1 y2 KL KP
        go_loopg [11, 13] K (fun gh sv kv wr => ∃ (j : Nat) (u : ByteArray), j ≤ K ∧ gh = K - j ∧ kv = .int .i64 ((K : Int) - j) ∧ sv = .string u ∧ Hid (u = bL (btV tb zs n lg k ++ (LP ++ [32, 124]) ++ List.replicate j 61)) ∧ V = wr)
        case atStart => exact ⟨0, _, Nat.zero_le _, rfl, by simp, rfl, Lib.hid (by
          rw [HU.out, HBP.out, show ByteArray.mk #[32, 124] = bL [32, 124] from rfl, bL_app, bL_app]; simp), rfl⟩
        case round =>
          obtain ⟨j, u, hj, rfl, rfl, rfl, HUU, rfl⟩ := hrel
          have hus : u.size ≤ 16000 + 62 + 200 := by
            have h1 : u.size = (btV tb zs n lg k ++ (LP ++ [32, 124]) ++ List.replicate j 61).length := by rw [HUU.out, bL_size]
            have h2 : t.size = (btV tb zs n lg k).length := by rw [HU.out, bL_size]
            have h3 : bP.size = LP.length := by rw [HBP.out, bL_size]
            simp only [List.length_append, List.length_replicate, List.length_cons, List.length_nil] at h1
            omega
          by_cases hjK : j < K
          · have hp : (0 : Int) < (K : Int) - j := by omega
            have y1 : ¬ 9223372036854775807 < u.size + 1 := by omega
            have q1 : IntKind.i64.wrap ((K : Int) - j - 1) = (K : Int) - ((j + 1 : Nat) : Int) := by rw [IntWalk.i64_in _ (by omega)]; omega
            have q2 : wrap64 ((K : Int) - j - 1) = (K : Int) - ((j + 1 : Nat) : Int) := by rw [IntWalk.wrap64_in _ (by omega)]; omega
            have HU2 : Hid (u ++ ByteArray.mk #[61] = bL (btV tb zs n lg k ++ (LP ++ [32, 124]) ++ List.replicate (j + 1) 61)) := Lib.hid (by
              rw [HUU.out, show ByteArray.mk #[61] = bL [61] from rfl, bL_app, List.replicate_succ', List.append_assoc (_ ++ _)])
            clear hus
            go_wp2_with fail
            go_roundg (K - (j + 1))
            case measure => clear q1 q2; omega
            case rel => first | exact ⟨j + 1, _, by omega, rfl, rfl, rfl, HU2, rfl⟩ | exact ⟨j + 1, _, by omega, rfl, rfl, rfl, HU2, trivial⟩
          · have hjE : j = K := by omega
            have hp : ¬ (0 : Int) < (K : Int) - j := by omega
            have KO := Lib.hid (rof_any x V HHZ.out.1 HHZ.out.2)
            have hIT := Lib.itoa_length_le x HHZ.out.1 HHZ.out.2
            obtain ⟨LI, hLI⟩ : ∃ LI, Lib.itoa x = LI := ⟨_, rfl⟩
            rw [hLI] at KO hIT
            obtain ⟨bI, hbI⟩ : ∃ b, ByteArray.mk LI.toArray = b := ⟨_, rfl⟩
            rw [hbI] at KO
            have sI : bI.size ≤ 21 := by
              have e : bI.size = LI.length := by rw [← hbI]; exact bL_size LI
              omega
            have HF : Hid (u ++ (ByteArray.mk #[32] ++ bI ++ ByteArray.mk #[10]) = bL (btV tb zs n lg (k + 1))) := Lib.hid (by
              rw [HUU.out, ← hbI, show ByteArray.mk LI.toArray = bL LI from rfl, show ByteArray.mk #[32] = bL [32] from rfl, show ByteArray.mk #[10] = bL [10] from rfl, bL_app, bL_app, bL_app, HLS.out, hjE]
              unfold lnB
              rw [HLPP.out, hLI]
              simp [List.append_assoc])
            have y1 : ¬ 9223372036854775807 < 1 + bI.size := by omega
            have y2 : ¬ 9223372036854775807 < 1 + bI.size + 1 := by omega
            have y3 : ¬ 9223372036854775807 < u.size + (1 + bI.size + 1) := by omega
            clear hLI hbI hIT hjE hus
            go_wp2_with fail
            refine KO.out.mono ?_
            rintro e V2 ⟨rfl, hb⟩
            have E2 := Lib.hid (EE.out.trans (hb.mono EE.out.size))
            clear hb
            go_wp2_with fail
            go_roundg (n - (k + 1))
            case measure => omega
            case rel => exact ⟨k + 1, _, by omega, rfl, by go_num, rfl, HF, E2, HO2⟩
    · obtain rfl : k = n := by omega
      have HOK : Hid (OkB (zat zs) k lg) := Lib.hid HO.out
      clear HO
      go_wp2_with fail
      rw [← HRR.out]
      exact ⟨_, _, rfl, EE.out, fun _ => ⟨HU.out, rfl⟩, fun q => absurd HOK.out q⟩
end Go.Proofs.YtncpioakggaehaaDoor
