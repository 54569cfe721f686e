/- Contracts of the document's two and Text, of clock.Span and of the law's alive. -/
import Derived.Test.YtlckgdgmanmbhaaDoorRows
import Derived.Test.YtlckgdgmanmbhaaDoorRowKit
import Derived.Test.YtlckgdgmanmbhaaDoorNumsMath
import Derived.Test.YtlckgdgmanmbhaaDoorNumsA
import Derived.Test.YtlckgdgmanmbhaaDoorDigA
import Derived.Test.YtlckgdgmanmbhaaDoorDigB
import Derived.Test.YtlckgdgmanmbhaaDoorTab
import Derived.Test.YtlckgdgmanmbhaaDoorClockA
import Derived.WalkKit
import Derived.IntWalk
import Derived.Lib.Hide
import Derived.Lib.ItoaLen
import Derived.Lib.ItoaMem
import Derived.WalkSpells
import Derived.WalkLawsBesides
import Derived.Laws.IdiomStrings
import Derived.Deep.QuietTactic
import Derived.BigQuiet
import Derived.Deep.RegionHeld3
namespace Go.Proofs.YtlckgdgmanmbhaaDoor
open Go.RowKit Go.Sort
set_option linter.unusedSimpArgs false
set_option linter.unusedVariables false
theorem conv_two (W : World) {a b : Nat} (ha : a < 10) (hb : b < 10) :
    (convert 80 9 (.slice (some ⟨W.heap.size, 0, none⟩) 2 2)).run Tryd.prog (W.alloc (.cells #[.int .u8 (48 + (a : Int)), .int .u8 (48 + (b : Int))] 5)) = .ok (.string ⟨#[dgt a, dgt b]⟩) (W.alloc (.cells #[.int .u8 (48 + (a : Int)), .int .u8 (48 + (b : Int))] 5)) := by
  refine run_convert_bytes_back _ 80 9 5 ⟨W.heap.size, 0, none⟩ 2 [dgt a, dgt b] Tryd.underlying80 Tryd.underlying5 Tryd.underlying9 (fun j hj => ?_)
  have e1 := dgt_nat ha
  have e2 := dgt_nat hb
  rcases (show j = 0 ∨ j = 1 by simp at hj; omega) with rfl | rfl
  · simp only [List.getElem_cons_zero, e1]
    exact (World.cell?_alloc_mark W _ _ _ 0).trans (by simp)
  · simp only [List.getElem_cons_succ, List.getElem_cons_zero, e2]
    exact (World.cell?_alloc_mark W _ _ _ 1).trans (by simp)
set_option maxRecDepth 100000 in
set_option maxHeartbeats 1000000 in
theorem rtwo_any (n : Nat) (w : World) (h : n < 100) :
    Calls Tryd.prog 40 #[.int .u64 n] w fun e w' => e = .returned (.string ⟨(tw n).toArray⟩) ∧ Below w.heap.size w w' := by
  have a1 : n / 10 < 10 := by omega
  have b1 : n % 10 < 10 := by omega
  have HT : Hid (tw n = [dgt (n / 10), dgt (n % 10)]) := Lib.hid rfl
  have e1 : (n : Int) / 10 = ((n / 10 : Nat) : Int) := by omega
  have e2 : ((n / 10 : Nat) : Int) % 10 = ((n / 10 : Nat) : Int) := by omega
  have e3 : (n : Int) % 10 = ((n % 10 : Nat) : Int) := by omega
  have n0 : (0 : Int) ≤ (n : Int) := by omega
  obtain ⟨N, hN⟩ : ∃ N : Int, (n : Int) = N := ⟨_, rfl⟩
  have HC := Lib.hid (fun W => conv_two W a1 b1)
  have a2 : ((n / 10 : Nat) : Int) < 10 := by omega
  have b2 : ((n % 10 : Nat) : Int) < 10 := by omega
  rw [hN] at e1 e3 n0
  rw [hN]
  generalize n / 10 = a at *
  generalize n % 10 = b at *
  have w1 : IntKind.u64.wrap (48 + (a : Int)) = 48 + (a : Int) := by rw [IntKind.wrap_u64]; omega
  have w2 : IntKind.u8.wrap (48 + (a : Int)) = 48 + (a : Int) := by rw [IntKind.wrap_u8]; omega
  have w3 : IntKind.u64.wrap (48 + (b : Int)) = 48 + (b : Int) := by rw [IntKind.wrap_u64]; omega
  have w4 : IntKind.u8.wrap (48 + (b : Int)) = 48 + (b : Int) := by rw [IntKind.wrap_u8]; omega
  have kc := HC.out w
  clear hN h a1 b1
  go_enter Tryd.func40, Tryd.ntmps40
  go_wp2_with fail
  go_ret
  exact ⟨by rw [HT.out]; rfl, (Below.refl _ _).alloc (Nat.le_refl _) _⟩
set_option maxRecDepth 100000 in
set_option maxHeartbeats 1000000 in
theorem rctext_pos (t : Nat) (w : World) (h : t ≤ 9223372036854775807) :
    Calls Tryd.prog 22 #[.int .i64 t] w fun e w' => e = .returned (.string ⟨(ckP t).toArray⟩) ∧ Below w.heap.size w w' := by
  have r1 : t % 86400 < 86400 := Nat.mod_lt _ (by omega)
  have e1 : (t : Int) % 86400 = ((t % 86400 : Nat) : Int) := by omega
  have d1 : (t : Int) / 86400 = ((t / 86400 : Nat) : Int) := by omega
  have hd : t / 86400 ≤ 9223372036854775807 := by omega
  have hdl : t < 86400 ↔ t / 86400 = 0 := by omega
  have HC : Hid (ckP t = if t < 86400 then hms (t % 86400) else Lib.itoa ((t / 86400 : Nat) : Int) ++ [100] ++ hms (t % 86400)) := Lib.hid rfl
  generalize t % 86400 = r at r1 e1 HC
  generalize t / 86400 = dd at d1 hd HC hdl
  have HH : Hid (hms r = tw (r / 3600) ++ [58] ++ tw (r % 3600 / 60) ++ [58] ++ tw (r % 60)) := Lib.hid rfl
  have e2 : (r : Int) / 3600 = ((r / 3600 : Nat) : Int) := by omega
  have e3 : (r : Int) % 3600 = ((r % 3600 : Nat) : Int) := by omega
  have e4 : ((r % 3600 : Nat) : Int) / 60 = ((r % 3600 / 60 : Nat) : Int) := by omega
  have e5 : (r : Int) % 60 = ((r % 60 : Nat) : Int) := by omega
  have a1 : r / 3600 < 100 := by omega
  have a2 : r % 3600 / 60 < 100 := by omega
  have a3 : r % 60 < 100 := by omega
  generalize r % 3600 / 60 = b at e4 a2 HH
  generalize r % 3600 = s at e3 e4
  generalize r / 3600 = a at e2 a1 HH
  generalize r % 60 = c at e5 a3 HH
  have HA := fun w => rtwo_any a w a1
  have HB := fun w => rtwo_any b w a2
  have HCc := fun w => rtwo_any c w a3
  have lA := tw_len a
  have lB := tw_len b
  have lC := tw_len c
  generalize tw a = LA at HA lA HH
  generalize tw b = LB at HB lB HH
  generalize tw c = LC at HCc lC HH
  have HA := Lib.hid HA
  have HB := Lib.hid HB
  have HCc := Lib.hid HCc
  have h9 : (t : Int) ≤ 9223372036854775807 := by omega
  have t0 : (0 : Int) ≤ (t : Int) := by omega
  have hr0 : (0 : Int) ≤ (r : Int) := by omega
  have hr1 : (r : Int) ≤ 86400 := by omega
  have htm : ¬ (t : Int) = -9223372036854775808 := by omega
  obtain ⟨T, hT⟩ : ∃ T : Int, (t : Int) = T := ⟨_, rfl⟩
  obtain ⟨R, hR⟩ : ∃ R : Int, (r : Int) = R := ⟨_, rfl⟩
  obtain ⟨DD, hDD⟩ : ∃ DD : Int, (dd : Int) = DD := ⟨_, rfl⟩
  have hq : (T == -9223372036854775808) = false := by rw [beq_eq_false_iff_ne]; omega
  rw [hT, hR] at e1
  rw [hT, hDD] at d1
  rw [hR] at e2 e3 e5 hr0 hr1
  rw [hT] at h9 t0 htm
  by_cases hl : dd = 0
  · have HCk : Hid (ckP t = LA ++ [58] ++ LB ++ [58] ++ LC) := Lib.hid (by rw [HC.out, if_pos (hdl.2 hl), HH.out])
    have hz : DD = 0 := by omega
    rw [hz] at d1
    rw [hT]
    clear hl h hdl HC r1 a1 a2 a3 hd hT hR hDD hz htm
    go_enter Tryd.func22, Tryd.ntmps22
    go_wp2_with fail
    refine (HA.out _).mono ?_
    rintro e w1 ⟨rfl, hb1⟩
    go_wp2_with fail
    refine (HB.out _).mono ?_
    rintro e w2 ⟨rfl, hb2⟩
    go_wp2_with fail
    refine (HCc.out _).mono ?_
    rintro e w3 ⟨rfl, hb3⟩
    go_wp2_with fail
    go_ret
    exact ⟨by rw [HCk.out, ← join_hms]; rfl, (hb1.trans (hb2.mono hb1.size)).trans (hb3.mono (Nat.le_trans hb1.size hb2.size))⟩
  · have lD := Lib.itoa_length_le (dd : Int) (by omega) (by omega)
    have HD := fun w => rtext_any (dd : Int) w (by omega) (by omega)
    have HCk : ckP t = Lib.itoa (dd : Int) ++ [100] ++ (LA ++ [58] ++ LB ++ [58] ++ LC) := by rw [HC.out, if_neg (fun hc => hl (hdl.1 hc)), HH.out]
    generalize Lib.itoa (dd : Int) = LD at lD HD HCk
    rw [hDD] at HD
    have HD := Lib.hid HD
    have HCk := Lib.hid HCk
    have hz : 0 < DD := by omega
    have x1 : ¬ 9223372036854775807 < LD.length + 1 := by omega
    have x2 : ¬ 9223372036854775807 ≤ LD.length := by omega
    have x3 : ¬ 9223372036854775807 < LD.length + 1 + 8 := by omega
    have x4 : LD.length < 9223372036854775807 := by omega
    rw [hT]
    clear hl h hdl HC r1 a1 a2 a3 hd hT hR hDD htm lD
    go_enter Tryd.func22, Tryd.ntmps22
    go_wp2_with fail
    refine (HA.out _).mono ?_
    rintro e w1 ⟨rfl, hb1⟩
    go_wp2_with fail
    refine (HB.out _).mono ?_
    rintro e w2 ⟨rfl, hb2⟩
    go_wp2_with fail
    refine (HCc.out _).mono ?_
    rintro e w3 ⟨rfl, hb3⟩
    go_wp2_with fail
    refine (HD.out _).mono ?_
    rintro e w4 ⟨rfl, hb4⟩
    go_wp2_with fail
    go_ret
    have q3 := (hb1.trans (hb2.mono hb1.size)).trans (hb3.mono (Nat.le_trans hb1.size hb2.size))
    exact ⟨by rw [HCk.out, ← join_day]; rfl, q3.trans (hb4.mono q3.size)⟩
set_option maxRecDepth 100000 in
set_option maxHeartbeats 1000000 in
theorem rctext_any (t : Int) (w : World) (h0 : -9223372036854775808 ≤ t) (h : t ≤ 9223372036854775807) :
    Calls Tryd.prog 22 #[.int .i64 t] w fun e w' => e = .returned (.string ⟨(ckL t).toArray⟩) ∧ Below w.heap.size w w' := by
  by_cases hn : t < 0
  · obtain ⟨m, hm⟩ : ∃ m : Nat, (if t = -9223372036854775808 then 9223372036854775807 else t.natAbs) = m := ⟨_, rfl⟩
    have hm2 : m ≤ 9223372036854775807 := by rw [← hm]; split <;> omega
    have HK : ckL t = 45 :: ckP m := by unfold ckL; rw [if_pos hn, hm]
    have HP := fun w => rctext_pos m w hm2
    have lP := ckP_len m hm2
    generalize ckP m = L at HK HP lP
    have x1 : ¬ 9223372036854775807 < 1 + L.length := by omega
    have x2 : ¬ 9223372036854775807 ≤ L.length := by omega
    have x3 : L.length < 9223372036854775807 := by omega
    have HK := Lib.hid HK
    by_cases ht : t = -9223372036854775808
    · have hmm : m = 9223372036854775807 := by rw [← hm, if_pos ht]
      have HP' := fun w => HP w
      rw [hmm] at HP'
      have HP' := Lib.hid HP'
      subst ht
      clear lP hm hm2 HP hmm
      go_enter Tryd.func22, Tryd.ntmps22
      go_wp2_with fail
      refine (HP'.out _).mono ?_
      rintro e w1 ⟨rfl, hb1⟩
      go_wp2_with fail
      go_ret
      exact ⟨by rw [HK.out, ← ck_ahead]; rfl, hb1⟩
    · have hmm : -t = (m : Int) := by rw [← hm, if_neg ht]; omega
      have hq : (t == -9223372036854775808) = false := by rw [beq_eq_false_iff_ne]; exact ht
      have ww : IntKind.i64.wrap (-t) = (m : Int) := by rw [hmm]; exact IntWalk.i64_in _ (by omega)
      have HP := Lib.hid HP
      clear lP hm hm2
      go_enter Tryd.func22, Tryd.ntmps22
      go_wp2_with fail
      refine (HP.out _).mono ?_
      rintro e w1 ⟨rfl, hb1⟩
      go_wp2_with fail
      go_ret
      exact ⟨by rw [HK.out, ← ck_ahead]; rfl, hb1⟩
  · obtain ⟨m, rfl⟩ := Int.eq_ofNat_of_zero_le (show 0 ≤ t by omega)
    have HK : ckL (m : Int) = ckP m := by unfold ckL; rw [if_neg hn, Int.natAbs_natCast]
    rw [HK]
    exact rctext_pos m w (by omega)
end Go.Proofs.YtlckgdgmanmbhaaDoor
