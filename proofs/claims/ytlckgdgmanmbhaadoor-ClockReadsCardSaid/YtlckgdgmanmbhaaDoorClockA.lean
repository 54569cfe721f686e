/- Contracts of clock.two, Text and of the document's: a time of day. -/
import Derived.Test.YtlckgdgmanmbhaaDoorRows
import Derived.Test.YtlckgdgmanmbhaaDoorRowKit
import Derived.Test.YtlckgdgmanmbhaaDoorNumsMath
import Derived.Test.YtlckgdgmanmbhaaDoorNumsA
import Derived.Test.YtlckgdgmanmbhaaDoorDigA
import Derived.Test.YtlckgdgmanmbhaaDoorDigB
import Derived.Test.YtlckgdgmanmbhaaDoorTab
import Derived.WalkKit
import Derived.IntWalk
import Derived.Lib.Hide
import Derived.Lib.ItoaLen
import Derived.Lib.ItoaMem
import Derived.WalkSpells
import Derived.WalkLawsBesides
import Derived.Laws.IdiomStrings
import Derived.Deep.QuietTactic
import Derived.BigQuiet
import Derived.Deep.RegionHeld3
namespace Go.Proofs.YtlckgdgmanmbhaaDoor
open Go.RowKit Go.Sort
set_option linter.unusedSimpArgs false
set_option linter.unusedVariables false
/-- two digits -/
def tw (n : Nat) : List UInt8 := [dgt (n / 10), dgt (n % 10)]
theorem tw_len (n : Nat) : (tw n).length = 2 := rfl
theorem dtx1 (v : Int) (d : Nat) (w : World) (ht : Hid (Tab w)) (hv : v = d) (hd : d < 10) :
    Calls Tryd.prog 25 #[.int .i64 v] w fun e w' => e = .returned (.string ⟨#[dgt d]⟩) ∧ Below w.heap.size w w' := by
  subst hv
  have h := dtx_any (d : Int) w ht (by omega) (by omega)
  rw [Lib.itoa_nonneg, Lib.decDigits_one hd] at h
  exact h
set_option maxHeartbeats 400000 in
theorem two_any (n : Nat) (w : World) (ht : Tab w) (h : n < 100) :
    Calls Tryd.prog 24 #[.int .i64 n] w fun e w' => e = .returned (.string ⟨(tw n).toArray⟩) ∧ Below w.heap.size w w' := by
  have HA := Lib.hid (fun w t => dtx1 ((n : Int) / 10) (n / 10) w t (by omega) (by omega))
  have HB := Lib.hid (fun w t => dtx1 ((n : Int) % 10) (n % 10) w t (by omega) (by omega))
  have hT := Lib.hid ht
  clear ht
  go_enter Tryd.func24, Tryd.ntmps24
  go_wp2_with fail
  refine (HA.out _ hT).mono ?_
  rintro e w1 ⟨rfl, hb1⟩
  have t1 := Lib.hid (tab_next hT.out hb1)
  go_wp2_with fail
  refine (HB.out _ t1).mono ?_
  rintro e w2 ⟨rfl, hb2⟩
  go_wp2_with fail
  go_ret
  exact ⟨rfl, hb1.trans (hb2.mono hb1.size)⟩
/-- the hours, minutes and seconds -/
def hms (r : Nat) : List UInt8 := tw (r / 3600) ++ [58] ++ tw (r % 3600 / 60) ++ [58] ++ tw (r % 60)
/-- a time of day -/
def ckP (t : Nat) : List UInt8 := if t < 86400 then hms (t % 86400) else Lib.itoa ((t / 86400 : Nat) : Int) ++ [100] ++ hms (t % 86400)
theorem join_hms (A B C : List UInt8) : (ByteArray.mk A.toArray) ++ (ByteArray.mk #[58]) ++ (ByteArray.mk B.toArray) ++ (ByteArray.mk #[58]) ++ (ByteArray.mk C.toArray) = ByteArray.mk (A ++ [58] ++ B ++ [58] ++ C).toArray := by
  simp [ByteArray.mk_append_mk, List.append_assoc]
theorem join_day (D A B C : List UInt8) : (ByteArray.mk D.toArray) ++ (ByteArray.mk #[100]) ++ ((ByteArray.mk A.toArray) ++ (ByteArray.mk #[58]) ++ (ByteArray.mk B.toArray) ++ (ByteArray.mk #[58]) ++ (ByteArray.mk C.toArray)) = ByteArray.mk (D ++ [100] ++ (A ++ [58] ++ B ++ [58] ++ C)).toArray := by
  simp [ByteArray.mk_append_mk, List.append_assoc]
set_option maxRecDepth 100000 in
set_option maxHeartbeats 1000000 in
theorem ctext_pos (t : Nat) (w : World) (ht : Tab w) (h : t ≤ 9223372036854775807) :
    Calls Tryd.prog 9 #[.int .i64 t] w fun e w' => e = .returned (.string ⟨(ckP t).toArray⟩) ∧ Below w.heap.size w w' := by
  have r1 : t % 86400 < 86400 := Nat.mod_lt _ (by omega)
  have e1 : (t : Int) % 86400 = ((t % 86400 : Nat) : Int) := by omega
  have d1 : (t : Int) / 86400 = ((t / 86400 : Nat) : Int) := by omega
  have hd : t / 86400 ≤ 9223372036854775807 := by omega
  have HC : Hid (ckP t = if t < 86400 then hms (t % 86400) else Lib.itoa ((t / 86400 : Nat) : Int) ++ [100] ++ hms (t % 86400)) := Lib.hid rfl
  generalize t % 86400 = r at r1 e1 HC
  generalize t / 86400 = dd at d1 hd HC
  have HH : Hid (hms r = tw (r / 3600) ++ [58] ++ tw (r % 3600 / 60) ++ [58] ++ tw (r % 60)) := Lib.hid rfl
  have e2 : (r : Int) / 3600 = ((r / 3600 : Nat) : Int) := by omega
  have e3 : (r : Int) % 3600 = ((r % 3600 : Nat) : Int) := by omega
  have e4 : ((r % 3600 : Nat) : Int) / 60 = ((r % 3600 / 60 : Nat) : Int) := by omega
  have e5 : (r : Int) % 60 = ((r % 60 : Nat) : Int) := by omega
  have a1 : r / 3600 < 100 := by omega
  have a2 : r % 3600 / 60 < 100 := by omega
  have a3 : r % 60 < 100 := by omega
  generalize r % 3600 / 60 = b at e4 a2 HH
  generalize r % 3600 = s at e3 e4
  generalize r / 3600 = a at e2 a1 HH
  generalize r % 60 = c at e5 a3 HH
  have HA := fun w t => two_any a w t a1
  have HB := fun w t => two_any b w t a2
  have HCc := fun w t => two_any c w t a3
  have lA := tw_len a
  have lB := tw_len b
  have lC := tw_len c
  generalize tw a = LA at HA lA HH
  generalize tw b = LB at HB lB HH
  generalize tw c = LC at HCc lC HH
  have HA := Lib.hid HA
  have HB := Lib.hid HB
  have HCc := Lib.hid HCc
  have hT := Lib.hid ht
  clear ht r1 a1 a2 a3
  have h9 : (t : Int) ≤ 9223372036854775807 := by omega
  by_cases hl : t < 86400
  · have HCk : Hid (ckP t = LA ++ [58] ++ LB ++ [58] ++ LC) := Lib.hid (by rw [HC.out, if_pos hl, HH.out])
    have htr : (t : Int) = r := by omega
    have hrl : (r : Int) < 86400 := by omega
    have hrd : ¬ (86400 : Int) ≤ (r : Int) := by omega
    have err : (r : Int) % 86400 = r := by omega
    rw [htr]
    have hr0 : (0 : Int) ≤ (r : Int) := by omega
    obtain ⟨R, hR⟩ : ∃ R : Int, (r : Int) = R := ⟨_, rfl⟩
    rw [hR] at e2 e3 e5 hrl hrd err hr0
    rw [hR]
    clear hl h h9 htr e1 d1 hR
    go_enter Tryd.func9, Tryd.ntmps9
    go_wp2_with fail
    refine (HA.out _ hT.out).mono ?_
    rintro e w1 ⟨rfl, hb1⟩
    have t1 := Lib.hid (tab_next hT.out hb1)
    go_wp2_with fail
    refine (HB.out _ t1.out).mono ?_
    rintro e w2 ⟨rfl, hb2⟩
    have t2 := Lib.hid (tab_next t1.out hb2)
    go_wp2_with fail
    refine (HCc.out _ t2.out).mono ?_
    rintro e w3 ⟨rfl, hb3⟩
    go_wp2_with fail
    go_ret
    exact ⟨by rw [HCk.out, ← join_hms]; rfl, (hb1.trans (hb2.mono hb1.size)).trans (hb3.mono (Nat.le_trans hb1.size hb2.size))⟩
  · have lD := Lib.itoa_length_le (dd : Int) (by omega) (by omega)
    have HD := fun w t => dtx_any (dd : Int) w t (by omega) (by omega)
    have HCk : ckP t = Lib.itoa (dd : Int) ++ [100] ++ (LA ++ [58] ++ LB ++ [58] ++ LC) := by rw [HC.out, if_neg hl, HH.out]
    generalize Lib.itoa (dd : Int) = LD at lD HD HCk
    have HD := Lib.hid HD
    have HCk := Lib.hid HCk
    have hl' : (86400 : Int) ≤ (t : Int) := by omega
    have x1 : ¬ 9223372036854775807 < LD.length + 1 := by omega
    have x2 : ¬ 9223372036854775807 ≤ LD.length := by omega
    have x3 : ¬ 9223372036854775807 < LD.length + 1 + 8 := by omega
    have x4 : LD.length < 9223372036854775807 := by omega
    clear hl HC hd lD h
    go_enter Tryd.func9, Tryd.ntmps9
    go_wp2_with fail
    refine (HA.out _ hT.out).mono ?_
    rintro e w1 ⟨rfl, hb1⟩
    have t1 := Lib.hid (tab_next hT.out hb1)
    go_wp2_with fail
    refine (HB.out _ t1.out).mono ?_
    rintro e w2 ⟨rfl, hb2⟩
    have t2 := Lib.hid (tab_next t1.out hb2)
    go_wp2_with fail
    refine (HCc.out _ t2.out).mono ?_
    rintro e w3 ⟨rfl, hb3⟩
    have t3 := Lib.hid (tab_next t2.out hb3)
    go_wp2_with fail
    refine (HD.out _ t3).mono ?_
    rintro e w4 ⟨rfl, hb4⟩
    go_wp2_with fail
    go_ret
    have q3 := (hb1.trans (hb2.mono hb1.size)).trans (hb3.mono (Nat.le_trans hb1.size hb2.size))
    exact ⟨by rw [HCk.out, ← join_day]; rfl, q3.trans (hb4.mono q3.size)⟩
/-- a time of day, below 0 too -/
def ckL (t : Int) : List UInt8 := if t < 0 then 45 :: ckP (if t = -9223372036854775808 then 9223372036854775807 else t.natAbs) else ckP t.natAbs
theorem ckP_len (t : Nat) (h : t ≤ 9223372036854775807) : (ckP t).length ≤ 40 := by
  have := Lib.itoa_length_le ((t / 86400 : Nat) : Int) (by omega) (by omega)
  unfold ckP hms
  generalize Lib.itoa ((t / 86400 : Nat) : Int) = L at *
  split
  · simp [tw_len]
  · simp [tw_len]; omega
theorem ckL_len (t : Int) (h0 : -9223372036854775808 ≤ t) (h : t ≤ 9223372036854775807) : (ckL t).length ≤ 41 := by
  unfold ckL
  split
  · have := ckP_len (if t = -9223372036854775808 then 9223372036854775807 else t.natAbs) (by split <;> omega)
    simp; omega
  · have := ckP_len t.natAbs (by omega); omega
theorem ck_ahead (L : List UInt8) : (ByteArray.mk #[45]) ++ (ByteArray.mk L.toArray) = ByteArray.mk (45 :: L).toArray := by
  simp [ByteArray.mk_append_mk]
set_option maxRecDepth 100000 in
set_option maxHeartbeats 1000000 in
theorem ctext_any (t : Int) (w : World) (ht : Tab w) (h0 : -9223372036854775808 ≤ t) (h : t ≤ 9223372036854775807) :
    Calls Tryd.prog 9 #[.int .i64 t] w fun e w' => e = .returned (.string ⟨(ckL t).toArray⟩) ∧ Below w.heap.size w w' := by
  by_cases hn : t < 0
  · obtain ⟨m, hm, hmm⟩ : ∃ m : Nat, (if t = -9223372036854775808 then 9223372036854775807 else t.natAbs) = m ∧ max t (-9223372036854775807) = -(m : Int) := by
      refine ⟨_, rfl, ?_⟩
      split <;> omega
    have hm2 : m ≤ 9223372036854775807 := by rw [← hm]; split <;> omega
    have HK : ckL t = 45 :: ckP m := by unfold ckL; rw [if_pos hn, hm]
    have HP := fun w t => ctext_pos m w t hm2
    have lP := ckP_len m hm2
    generalize ckP m = L at HK HP lP
    have x1 : ¬ 9223372036854775807 < 1 + L.length := by omega
    have x2 : ¬ 9223372036854775807 ≤ L.length := by omega
    have x3 : L.length < 9223372036854775807 := by omega
    have HK := Lib.hid HK
    have HP := Lib.hid HP
    have hT := Lib.hid ht
    have ww : IntKind.i64.wrap (m : Int) = m := IntWalk.i64_in _ (by omega)
    clear ht lP hm
    go_enter Tryd.func9, Tryd.ntmps9
    go_wp2_with fail
    refine (HP.out _ hT.out).mono ?_
    rintro e w1 ⟨rfl, hb1⟩
    go_wp2_with fail
    go_ret
    exact ⟨by rw [HK.out, ← ck_ahead]; rfl, hb1⟩
  · obtain ⟨m, rfl⟩ := Int.eq_ofNat_of_zero_le (show 0 ≤ t by omega)
    have HK : ckL (m : Int) = ckP m := by unfold ckL; rw [if_neg hn, Int.natAbs_natCast]
    rw [HK]
    exact ctext_pos m w ht (by omega)
end Go.Proofs.YtlckgdgmanmbhaaDoor
