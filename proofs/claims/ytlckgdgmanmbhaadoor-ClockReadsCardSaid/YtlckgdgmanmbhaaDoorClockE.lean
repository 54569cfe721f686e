/- Clock: days, and clock.Read. -/
import Derived.Test.YtlckgdgmanmbhaaDoorRows
import Derived.Test.YtlckgdgmanmbhaaDoorRowKit
import Derived.Test.YtlckgdgmanmbhaaDoorShelf
import Derived.Test.YtlckgdgmanmbhaaDoorDigI
import Derived.Test.YtlckgdgmanmbhaaDoorClockB
import Derived.Test.YtlckgdgmanmbhaaDoorClockD
import Derived.WalkKit
import Derived.IntWalk
import Derived.Lib.Hide
import Derived.Lib.ItoaLen
import Derived.Lib.ItoaMem
import Derived.WalkSpells
import Derived.WalkLawsBesides
import Derived.Laws.IdiomStrings
import Derived.Laws.StructEq
import Derived.Deep.QuietTactic
import Derived.BigQuiet
import Derived.BigRegion
import Derived.Deep.LoopGhost
import Derived.OwnWalk
namespace Go.Proofs.YtlckgdgmanmbhaaDoor
open Go.RowKit Go.Sort
set_option linter.unusedSimpArgs false
set_option linter.unusedVariables false
def dyN (m : Bool) (n r : Int) : Int := if m = true ∨ (r = 0 ∧ n = 0) then 0 else n
def dyE (m : Bool) (n r : Int) : Int := if m = true ∨ (r = 0 ∧ n = 0) then 20 else r
set_option maxRecDepth 100000 in
set_option maxHeartbeats 4000000 in
theorem days_rd (P : List UInt8) (m : Bool) (n r : Int) (w : World) (hm : Lib.hasPrefix P [45] = m) (H : ∀ w, Calls Tryd.prog 37 #[.string (bL P)] w fun e w' => e = .returned (.tuple #[.int .i64 n, .int .i64 r]) ∧ w = w') :
    Calls Tryd.prog 20 #[.string (bL P)] w fun e w' => e = .returned (.tuple #[.int .i64 (dyN m n r), .int .i64 (dyE m n r)]) ∧ w = w' := by
  have KD := Lib.hid (H w)
  have KP := (Tryd.strings_HasPrefix (bL P) ⟨#[45]⟩ w)
  rw [show Lib.hasPrefix (bL P).data.toList (ByteArray.mk #[45]).data.toList = m from hm] at KP
  have KP := Lib.hid KP
  generalize bL P = s at *
  obtain ⟨a, ha⟩ : ∃ a, dyN m n r = a := ⟨_, rfl⟩
  obtain ⟨b, hb⟩ : ∃ b, dyE m n r = b := ⟨_, rfl⟩
  rw [ha, hb]
  obtain ⟨R, hR⟩ : ∃ R : Ending → World → Prop, (fun (e : Ending) (w' : World) => e = .returned (.tuple #[.int .i64 a, .int .i64 b]) ∧ w = w') = R := ⟨_, rfl⟩
  have HY : Hid (a = 0 → b = 20 → R (.returned (.tuple #[.int .i64 0, .int .i64 20])) w) := Lib.hid (fun h1 h2 => by rw [← hR, h1, h2]; exact ⟨rfl, rfl⟩)
  have HN : Hid (a = n → b = r → R (.returned (.tuple #[.int .i64 n, .int .i64 r])) w) := Lib.hid (fun h1 h2 => by rw [← hR, h1, h2]; exact ⟨rfl, rfl⟩)
  rw [hR]
  clear hR H
  unfold dyN at ha
  unfold dyE at hb
  cases m with
  | true =>
    rw [if_pos (Or.inl rfl)] at ha hb
    have HF := Lib.hid (HY.out ha.symm hb.symm)
    clear ha hb
    go_enter Tryd.func20, Tryd.ntmps20
    go_wp2_with fail
    refine KD.out.mono ?_
    rintro e w1 ⟨rfl, rfl⟩
    go_wp2_with fail
    refine KP.out.mono ?_
    rintro e w1 ⟨rfl, rfl⟩
    go_wp2_with fail
    exact HF.out
  | false =>
    by_cases h : r = 0
    · by_cases h2 : n = 0
      · rw [if_pos (Or.inr ⟨h, h2⟩)] at ha hb
        have HF := Lib.hid (HY.out ha.symm hb.symm)
        subst h; subst h2
        clear ha hb HY HN
        go_enter Tryd.func20, Tryd.ntmps20
        go_wp2_with fail
        refine KD.out.mono ?_
        rintro e w1 ⟨rfl, rfl⟩
        go_wp2_with fail
        refine KP.out.mono ?_
        rintro e w1 ⟨rfl, rfl⟩
        go_wp2_with fail
        exact HF.out
      · rw [if_neg (by simp [h2])] at ha hb
        have HF := Lib.hid (HN.out ha.symm hb.symm)
        subst h
        have hz : (n == 0) = false := by rw [beq_eq_false_iff_ne]; exact h2
        clear ha hb HY HN
        go_enter Tryd.func20, Tryd.ntmps20
        go_wp2_with fail
        refine KD.out.mono ?_
        rintro e w1 ⟨rfl, rfl⟩
        go_wp2_with fail
        refine KP.out.mono ?_
        rintro e w1 ⟨rfl, rfl⟩
        go_wp2_with fail
        exact HF.out
    · rw [if_neg (by simp [h])] at ha hb
      have HF := Lib.hid (HN.out ha.symm hb.symm)
      have hz : (r == 0) = false := by rw [beq_eq_false_iff_ne]; exact h
      clear ha hb HY HN
      go_enter Tryd.func20, Tryd.ntmps20
      go_wp2_with fail
      refine KD.out.mono ?_
      rintro e w1 ⟨rfl, rfl⟩
      go_wp2_with fail
      refine KP.out.mono ?_
      rintro e w1 ⟨rfl, rfl⟩
      go_wp2_with fail
      exact HF.out
theorem hms_inj {p q : Nat} (hp : p < 86400) (hq : q < 86400) (h : hms p = hms q) : p = q := by
  rw [hms_list p] at h
  obtain ⟨_, _, _, j0, j1, j2, j3, j4, j5⟩ := hms_of hq h
  rw [dgt_nat (by omega)] at j0 j1 j2 j3 j4 j5
  omega
theorem time_yes (q : Nat) (w : World) (hq : q < 86400) : Calls Tryd.prog 21 #[.string (bL (hms q))] w fun e w' => e = .returned (.tuple #[.int .i64 q, .bool true]) ∧ w = w' :=
  (time_rd (hms q) w (by rw [hms_len]; omega)).mono fun e w' ⟨r, ok, h1, h2, h3⟩ => by
    rcases h2 with ⟨p, hp, e1, rfl, rfl⟩ | ⟨h, _⟩
    · rw [hms_inj hq hp e1]; exact ⟨h1, h3⟩
    · exact absurd rfl (h q hq)
theorem time_no (T : List UInt8) (w : World) (hl : T.length ≤ 1000) (hT : ∀ q, q < 86400 → T ≠ hms q) : Calls Tryd.prog 21 #[.string (bL T)] w fun e w' => e = .returned (.tuple #[.int .i64 0, .bool false]) ∧ w = w' :=
  (time_rd T w hl).mono fun e w' ⟨r, ok, h1, h2, h3⟩ => by
    rcases h2 with ⟨p, hp, e1, rfl, rfl⟩ | ⟨_, rfl, rfl⟩
    · exact absurd e1 (hT p hp)
    · exact ⟨h1, h3⟩
def ckB (de : Int) (ok : Bool) : Prop := de = 20 ∨ ok = false
def ckG (dn de rest : Int) : Prop := de ≠ 0 ∨ 12725829 < dn ∨ 1099511627776 < dn * 86400 + rest
instance (de : Int) (ok : Bool) : Decidable (ckB de ok) := inferInstanceAs (Decidable (_ ∨ _))
instance (dn de rest : Int) : Decidable (ckG dn de rest) := inferInstanceAs (Decidable (_ ∨ _ ∨ _))
def ckN (dn de rest : Int) (ok : Bool) : Int := if ckB de ok then 0 else if ckG dn de rest then 0 else dn * 86400 + rest
def ckE (dn de rest : Int) (ok : Bool) : Int := if ckB de ok then 20 else if ckG dn de rest then 10 else 0
set_option maxRecDepth 100000 in
set_option maxHeartbeats 8000000 in
theorem cread_d (s A B : ByteArray) (dn de rest : Int) (ok : Bool) (w : World) (hcut : Calls Tryd.prog 19 #[.string s, .string ⟨#[100]⟩] w fun e w' => e = .returned (.tuple #[.string A, .string B, .bool true]) ∧ ∃ n, w' = w.drewN n)
    (hd : ∀ w, Calls Tryd.prog 20 #[.string A] w fun e w' => e = .returned (.tuple #[.int .i64 dn, .int .i64 de]) ∧ w = w') (ht : ∀ w, Calls Tryd.prog 21 #[.string B] w fun e w' => e = .returned (.tuple #[.int .i64 rest, .bool ok]) ∧ w = w')
    (b0 : -9223372036854775808 ≤ dn) (b1 : de = 0 → 0 ≤ dn) (b2 : 0 ≤ rest) (b3 : rest < 86400) :
    Calls Tryd.prog 6 #[.string s] w fun e w' => e = .returned (.tuple #[.int .i64 (ckN dn de rest ok), .int .i64 (ckE dn de rest ok)]) ∧ ∃ n, w' = w.drewN n := by
  obtain ⟨R, hR⟩ : ∃ R : Ending → World → Prop, (fun (e : Ending) (w' : World) => e = .returned (.tuple #[.int .i64 (ckN dn de rest ok), .int .i64 (ckE dn de rest ok)]) ∧ ∃ n, w' = w.drewN n) = R := ⟨_, rfl⟩
  have HRR : ∀ (V : World) (a b : Int), ckN dn de rest ok = a → ckE dn de rest ok = b → (∃ n, V = w.drewN n) → R (.returned (.tuple #[.int .i64 a, .int .i64 b])) V := fun V a b h1 h2 h3 => by rw [← hR, h1, h2]; exact ⟨rfl, h3⟩
  rw [hR]
  clear hR
  have KC := Lib.hid hcut; have KD := Lib.hid hd; have KT := Lib.hid ht
  have HB1 := Lib.hid b1
  clear hcut hd ht b1
  go_enter Tryd.func6, Tryd.ntmps6
  go_wp2_with fail
  refine KC.out.mono ?_
  rintro e V0 ⟨rfl, HVW⟩
  go_wp2_with fail
  refine (KD.out _).mono ?_
  rintro e V ⟨rfl, rfl⟩
  go_wp2_with fail
  refine (KT.out _).mono ?_
  rintro e V ⟨rfl, rfl⟩
  clear KC KD KT
  rename World => V
  have HCN : Hid (ckB de ok → R (.returned (.tuple #[.int .i64 0, .int .i64 20])) V) := Lib.hid (fun h => HRR V 0 20 (by unfold ckN; rw [if_pos h]) (by unfold ckE; rw [if_pos h]) HVW)
  have HCG : Hid (¬ ckB de ok → ckG dn de rest → R (.returned (.tuple #[.int .i64 0, .int .i64 10])) V) := Lib.hid (fun h g => HRR V 0 10 (by unfold ckN; rw [if_neg h, if_pos g]) (by unfold ckE; rw [if_neg h, if_pos g]) HVW)
  have HCO : Hid (¬ ckB de ok → ¬ ckG dn de rest → ∀ t, dn * 86400 + rest = t → R (.returned (.tuple #[.int .i64 t, .int .i64 0])) V) := Lib.hid (fun h g t ht => HRR V t 0 (by unfold ckN; rw [if_neg h, if_neg g, ht]) (by unfold ckE; rw [if_neg h, if_neg g]) HVW)
  clear HRR HVW
  by_cases h20 : de = 20
  · have HF := Lib.hid (HCN.out (Or.inl h20))
    subst h20
    go_wp2_with fail
    exact HF.out
  have z20 : (de == 20) = false := by rw [beq_eq_false_iff_ne]; exact h20
  cases ok with
  | false =>
    have HF := Lib.hid (HCN.out (Or.inr rfl))
    go_wp2_with fail
    exact HF.out
  | true =>
    have hB : ¬ ckB de true := by unfold ckB; simp [h20]
    by_cases h0 : de = 0
    · subst h0; have b1 := HB1.out rfl
      by_cases hd : 12725829 < dn
      · have HF := Lib.hid (HCG.out hB (Or.inr (Or.inl hd)))
        clear HCN HCG HCO hB
        go_wp2_with fail
        exact HF.out
      · obtain ⟨x, hx⟩ : ∃ x, dn * 86400 = x := ⟨_, rfl⟩
        obtain ⟨t, ht⟩ : ∃ t, x + rest = t := ⟨_, rfl⟩
        have p1 : IntKind.i64.wrap (dn * 86400) = x := by rw [hx]; exact IntWalk.i64_in _ (by omega)
        have p2 : wrap64 (dn * 86400) = x := by rw [hx]; exact IntWalk.wrap64_in _ (by omega)
        have p3 : IntKind.i64.wrap (x + rest) = t := by rw [ht]; exact IntWalk.i64_in _ (by omega)
        have p4 : wrap64 (x + rest) = t := by rw [ht]; exact IntWalk.wrap64_in _ (by omega)
        have hd' : dn ≤ 12725829 := by omega
        by_cases hg : 1099511627776 < t
        · have HF := Lib.hid (HCG.out hB (Or.inr (Or.inr (by rw [hx, ht]; exact hg))))
          clear HCN HCG HCO hB hx ht
          go_wp2_with fail
          exact HF.out
        · have HF := Lib.hid (HCO.out hB (by unfold ckG; rw [hx, ht]; simp; omega) t (by rw [hx, ht]))
          clear HCN HCG HCO hB hx ht
          go_wp2_with fail
          exact HF.out
    · have HF := Lib.hid (HCG.out hB (Or.inl h0))
      have z0 : (de == 0) = false := by rw [beq_eq_false_iff_ne]; exact h0
      have z1 : (de != 0) = true := by rw [bne_iff_ne]; exact h0
      clear HCN HCG HCO hB
      go_wp2_with fail
      exact HF.out
set_option maxRecDepth 100000 in
set_option maxHeartbeats 8000000 in
theorem cread_n (s A B : ByteArray) (rest : Int) (ok : Bool) (w : World) (hcut : Calls Tryd.prog 19 #[.string s, .string ⟨#[100]⟩] w fun e w' => e = .returned (.tuple #[.string A, .string B, .bool false]) ∧ ∃ n, w' = w.drewN n)
    (ht : ∀ w, Calls Tryd.prog 21 #[.string s] w fun e w' => e = .returned (.tuple #[.int .i64 rest, .bool ok]) ∧ w = w') (b2 : 0 ≤ rest) (b3 : rest < 86400) :
    Calls Tryd.prog 6 #[.string s] w fun e w' => e = .returned (.tuple #[.int .i64 (if ok = true then rest else 0), .int .i64 (if ok = true then 0 else 20)]) ∧ ∃ n, w' = w.drewN n := by
  have KC := Lib.hid hcut; have KT := Lib.hid ht
  clear hcut ht
  have p3 : IntKind.i64.wrap (0 + rest) = rest := by rw [Int.zero_add]; exact IntWalk.i64_in _ (by omega)
  have p4 : wrap64 (0 + rest) = rest := by rw [Int.zero_add]; exact IntWalk.wrap64_in _ (by omega)
  have p5 : wrap64 rest = rest := IntWalk.wrap64_in _ (by omega)
  have hg : ¬ 1099511627776 < rest := by omega
  cases ok with
  | false =>
    rw [if_neg (by simp), if_neg (by simp)]
    go_enter Tryd.func6, Tryd.ntmps6
    go_wp2_with fail
    refine KC.out.mono ?_
    rintro e V0 ⟨rfl, HVW⟩
    go_wp2_with fail
    refine (KT.out _).mono ?_
    rintro e V ⟨rfl, rfl⟩
    go_wp2_with fail
    go_ret2
    exact ⟨rfl, HVW⟩
  | true =>
    rw [if_pos rfl, if_pos rfl]
    go_enter Tryd.func6, Tryd.ntmps6
    go_wp2_with fail
    refine KC.out.mono ?_
    rintro e V0 ⟨rfl, HVW⟩
    go_wp2_with fail
    refine (KT.out _).mono ?_
    rintro e V ⟨rfl, rfl⟩
    go_wp2_with fail
    go_ret2
    exact ⟨rfl, HVW⟩
end Go.Proofs.YtlckgdgmanmbhaaDoor
