/- Clock: a time of day, days, and both, read. -/
import Derived.Test.YtlckgdgmanmbhaaDoorRows
import Derived.Test.YtlckgdgmanmbhaaDoorRowKit
import Derived.Test.YtlckgdgmanmbhaaDoorShelf
import Derived.Test.YtlckgdgmanmbhaaDoorDigI
import Derived.Test.YtlckgdgmanmbhaaDoorClockB
import Derived.Test.YtlckgdgmanmbhaaDoorClockC
import Derived.Test.YtlckgdgmanmbhaaDoorRowS
import Derived.WalkKit
import Derived.IntWalk
import Derived.Lib.Hide
import Derived.Lib.ItoaLen
import Derived.Lib.ItoaMem
import Derived.WalkSpells
import Derived.WalkLawsBesides
import Derived.Laws.IdiomStrings
import Derived.Laws.StructEq
import Derived.Deep.QuietTactic
import Derived.BigQuiet
import Derived.BigRegion
import Derived.Deep.LoopGhost
import Derived.OwnWalk
namespace Go.Proofs.YtlckgdgmanmbhaaDoor
open Go.RowKit Go.Sort
set_option linter.unusedSimpArgs false
set_option linter.unusedVariables false
theorem hms_list (q : Nat) : hms q = [dgt (q / 3600 / 10), dgt (q / 3600 % 10), 58, dgt (q % 3600 / 60 / 10), dgt (q % 3600 / 60 % 10), 58, dgt (q % 60 / 10), dgt (q % 60 % 10)] := rfl
theorem hms_of {a b c d e f g h : UInt8} {q : Nat} (hq : q < 86400) (hh : [a, b, c, d, e, f, g, h] = hms q) : c = 58 ∧ f = 58 ∧ (dgN a.toNat ∧ dgN b.toNat ∧ dgN d.toNat ∧ dgN e.toNat ∧ dgN g.toNat ∧ dgN h.toNat) ∧ a.toNat = 48 + q / 3600 / 10 ∧ b.toNat = 48 + q / 3600 % 10 ∧ d.toNat = 48 + q % 3600 / 60 / 10 ∧ e.toNat = 48 + q % 3600 / 60 % 10 ∧ g.toNat = 48 + q % 60 / 10 ∧ h.toNat = 48 + q % 60 % 10 := by
  rw [hms_list] at hh
  simp only [List.cons.injEq, and_true] at hh
  obtain ⟨h1, h2, h3, h4, h5, h6, h7, h8⟩ := hh
  have e1 := dgt_nat (d := q / 3600 / 10) (by omega)
  have e2 := dgt_nat (d := q / 3600 % 10) (by omega)
  have e4 := dgt_nat (d := q % 3600 / 60 / 10) (by omega)
  have e5 := dgt_nat (d := q % 3600 / 60 % 10) (by omega)
  have e7 := dgt_nat (d := q % 60 / 10) (by omega)
  have e8 := dgt_nat (d := q % 60 % 10) (by omega)
  rw [← h1] at e1; rw [← h2] at e2; rw [← h4] at e4; rw [← h5] at e5; rw [← h7] at e7; rw [← h8] at e8
  unfold dgN
  refine ⟨h3, h6, ⟨?_, ?_, ?_, ?_, ?_, ?_⟩, e1, e2, e4, e5, e7, e8⟩ <;> omega
theorem hms_mk {a b d e g h : UInt8} (da : dgN a.toNat) (db : dgN b.toNat) (dd : dgN d.toNat) (de : dgN e.toNat) (dg : dgN g.toNat) (dh : dgN h.toNat) {H M S : Nat} (hH : H = 10 * (a.toNat - 48) + (b.toNat - 48)) (hM : M = 10 * (d.toNat - 48) + (e.toNat - 48)) (hS : S = 10 * (g.toNat - 48) + (h.toNat - 48)) (h1 : H < 24) (h2 : M < 60) (h3 : S < 60) : [a, b, 58, d, e, 58, g, h] = hms (H * 3600 + M * 60 + S) := by
  unfold dgN at *
  rw [hms_list]
  have r1 : (H * 3600 + M * 60 + S) / 3600 = H := by omega
  have r2 : (H * 3600 + M * 60 + S) % 3600 / 60 = M := by omega
  have r3 : (H * 3600 + M * 60 + S) % 60 = S := by omega
  rw [r1, r2, r3]
  have t : ∀ (x : UInt8) (n : Nat), n < 10 → x.toNat = 48 + n → x = dgt n := fun x n hn hx => UInt8.toNat_inj.1 (by rw [dgt_nat hn, hx])
  rw [← t a (H / 10) (by omega) (by omega), ← t b (H % 10) (by omega) (by omega), ← t d (M / 10) (by omega) (by omega), ← t e (M % 10) (by omega) (by omega), ← t g (S / 10) (by omega) (by omega), ← t h (S % 10) (by omega) (by omega)]
theorem hms_len (q : Nat) : (hms q).length = 8 := rfl
def TmR (T : List UInt8) (r : Int) (ok : Bool) : Prop := (∃ q : Nat, q < 86400 ∧ T = hms q ∧ r = q ∧ ok = true) ∨ ((∀ q, q < 86400 → T ≠ hms q) ∧ r = 0 ∧ ok = false)
def TmE (T : List UInt8) (w : World) (e : Ending) (w' : World) : Prop := ∃ r ok, e = .returned (.tuple #[.int .i64 r, .bool ok]) ∧ TmR T r ok ∧ w = w'
theorem tm_no {T : List UInt8} {w : World} (h : ∀ q, q < 86400 → T ≠ hms q) : TmE T w (.returned (.tuple #[.int .i64 0, .bool false])) w := ⟨0, false, rfl, Or.inr ⟨h, rfl, rfl⟩, rfl⟩
theorem bL_ix (L : List UInt8) (k n : Nat) (x : UInt8) (hL : L[k]? = some x) : ∀ h : k < (bL L).size, ((bL L)[k]'h).toNat = x.toNat := fun h => by
  have hk : k < L.length := by rw [bL_size] at h; exact h
  rw [bL_at L k h hk]
  rw [List.getElem?_eq_getElem hk] at hL
  injection hL with hL
  rw [hL]
set_option maxRecDepth 100000 in
set_option maxHeartbeats 8000000 in
theorem time_rd (T : List UInt8) (w : World) (hl : T.length ≤ 1000) : Calls Tryd.prog 21 #[.string (bL T)] w (TmE T w) := by
  by_cases h8 : T.length = 8
  · obtain ⟨a, b, c, d, e, f, g, h, rfl⟩ := list8 h8
    obtain ⟨R, hR⟩ : ∃ R : Ending → World → Prop, TmE [a, b, c, d, e, f, g, h] w = R := ⟨_, rfl⟩
    have HNO : Hid ((∀ q, q < 86400 → [a, b, c, d, e, f, g, h] ≠ hms q) → R (.returned (.tuple #[.int .i64 0, .bool false])) w) := Lib.hid (fun h => by rw [← hR]; exact tm_no h)
    have HRR := Lib.hid hR
    rw [hR]
    have hs : (bL [a, b, c, d, e, f, g, h]).size = 8 := bL_size _
    have G2 := bL_ix [a, b, c, d, e, f, g, h] 2 8 c rfl
    have G5 := bL_ix [a, b, c, d, e, f, g, h] 5 8 f rfl
    have s0 : (bL [a, b, c, d, e, f, g, h]).extract 0 2 = bL [a, b] := by rw [bL_sub]; rfl
    have s1 : (bL [a, b, c, d, e, f, g, h]).extract 3 5 = bL [d, e] := by rw [bL_sub]; rfl
    have s2 : (bL [a, b, c, d, e, f, g, h]).extract 6 8 = bL [g, h] := by rw [bL_sub]; rfl
    have K0 := Lib.hid (two_rd (bL [a, b]) a.toNat b.toNat 24 w rfl (bL_ix [a, b] 0 2 a rfl) (bL_ix [a, b] 1 2 b rfl) (UInt8.toNat_lt a) (UInt8.toNat_lt b))
    have K1 := Lib.hid (two_rd (bL [d, e]) d.toNat e.toNat 60 w rfl (bL_ix [d, e] 0 2 d rfl) (bL_ix [d, e] 1 2 e rfl) (UInt8.toNat_lt d) (UInt8.toNat_lt e))
    have K2 := Lib.hid (two_rd (bL [g, h]) g.toNat h.toNat 60 w rfl (bL_ix [g, h] 0 2 g rfl) (bL_ix [g, h] 1 2 h rfl) (UInt8.toNat_lt g) (UInt8.toNat_lt h))
    generalize bL [a, b, c, d, e, f, g, h] = s at *
    generalize bL [a, b] = t0 at *
    generalize bL [d, e] = t1 at *
    generalize bL [g, h] = t2 at *
    have k2 : 2 < s.size := by omega
    have k5 : 5 < s.size := by omega
    have g2 := G2 k2
    have g5 := G5 k5
    clear G2 G5
    have s2' : s.extract 6 s.size = t2 := by rw [hs]; exact s2
    by_cases hc : c.toNat = 58
    · have hcI : ((c.toNat : Int) != 58) = false := by rw [bne_eq_false_iff_eq]; omega
      have hcE : c = 58 := UInt8.toNat_inj.1 hc
      by_cases hf : f.toNat = 58
      · have hfI : ((f.toNat : Int) != 58) = false := by rw [bne_eq_false_iff_eq]; omega
        have hfE : f = 58 := UInt8.toNat_inj.1 hf
        have HCF := Lib.hid (And.intro hcE hfE)
        obtain ⟨xc, hxc⟩ : ∃ x, c.toNat = x := ⟨_, rfl⟩
        obtain ⟨xf, hxf⟩ : ∃ x, f.toNat = x := ⟨_, rfl⟩
        rw [hxc] at g2 hcI hc; rw [hxf] at g5 hfI hf
        clear hcE hfE hxc hxf hR h8 hl
        go_enter Tryd.func21, Tryd.ntmps21
        go_wp2_with fail
        refine K0.out.mono ?_
        rintro ee w1 ⟨v0, o0, rfl, R0, rfl⟩
        have R0 := Lib.hid R0
        go_wp2_with fail
        refine K1.out.mono ?_
        rintro ee w1 ⟨v1, o1, rfl, R1, rfl⟩
        have R1 := Lib.hid R1
        go_wp2_with fail
        refine K2.out.mono ?_
        rintro ee w1 ⟨v2, o2, rfl, R2', rfl⟩
        have R2' := Lib.hid R2'
        have HD : Hid (o0 = true ∧ o1 = true ∧ o2 = true → ∃ H M S : Nat, v0 = H ∧ v1 = M ∧ v2 = S ∧ H < 24 ∧ M < 60 ∧ S < 60 ∧ [a, b, c, d, e, f, g, h] = hms (H * 3600 + M * 60 + S)) := Lib.hid (by
          rintro ⟨rfl, rfl, rfl⟩
          have d0 : dgN a.toNat ∧ dgN b.toNat := by
            by_cases q : dgN a.toNat ∧ dgN b.toNat
            · exact q
            · have := (R0.out.2 q).2; cases this
          have d1 : dgN d.toNat ∧ dgN e.toNat := by
            by_cases q : dgN d.toNat ∧ dgN e.toNat
            · exact q
            · have := (R1.out.2 q).2; cases this
          have d2 : dgN g.toNat ∧ dgN h.toNat := by
            by_cases q : dgN g.toNat ∧ dgN h.toNat
            · exact q
            · have := (R2'.out.2 q).2; cases this
          obtain ⟨e0, l0⟩ := R0.out.1 d0
          obtain ⟨e1, l1⟩ := R1.out.1 d1
          obtain ⟨e2, l2⟩ := R2'.out.1 d2
          have l0 := of_decide_eq_true l0.symm
          have l1 := of_decide_eq_true l1.symm
          have l2 := of_decide_eq_true l2.symm
          have u0 := d0; have u1 := d1; have u2 := d2
          unfold dgN at u0 u1 u2
          refine ⟨10 * (a.toNat - 48) + (b.toNat - 48), 10 * (d.toNat - 48) + (e.toNat - 48), 10 * (g.toNat - 48) + (h.toNat - 48), by omega, by omega, by omega, by omega, by omega, by omega, ?_⟩
          rw [HCF.out.1, HCF.out.2]
          exact hms_mk d0.1 d0.2 d1.1 d1.2 d2.1 d2.2 rfl rfl rfl (by omega) (by omega) (by omega))
        have HN : Hid (¬ (o0 = true ∧ o1 = true ∧ o2 = true) → ∀ q, q < 86400 → [a, b, c, d, e, f, g, h] ≠ hms q) := Lib.hid (by
          intro hn q hq hh
          obtain ⟨_, _, ⟨i0, i1, i2, i3, i4, i5⟩, j0, j1, j2, j3, j4, j5⟩ := hms_of hq hh
          obtain ⟨e0, l0⟩ := R0.out.1 ⟨i0, i1⟩
          obtain ⟨e1, l1⟩ := R1.out.1 ⟨i2, i3⟩
          obtain ⟨e2, l2⟩ := R2'.out.1 ⟨i4, i5⟩
          exact hn ⟨by rw [l0]; exact decide_eq_true (by omega), by rw [l1]; exact decide_eq_true (by omega), by rw [l2]; exact decide_eq_true (by omega)⟩)
        clear R0 R1 R2' K0 K1 K2
        cases o0 with
        | false =>
          have HF := HNO.out (HN.out (by simp))
          go_wp2_with fail
          exact HF
        | true =>
          cases o1 with
          | false =>
            have HF := HNO.out (HN.out (by simp))
            go_wp2_with fail
            exact HF
          | true =>
            cases o2 with
            | false =>
              have HF := HNO.out (HN.out (by simp))
              go_wp2_with fail
              exact HF
            | true =>
              obtain ⟨H, M, S, rfl, rfl, rfl, hH, hM, hS, hh⟩ := HD.out ⟨rfl, rfl, rfl⟩
              have HF : Hid (R (.returned (.tuple #[.int .i64 ((H * 3600 + M * 60 + S : Nat) : Int), .bool true])) w) := Lib.hid (by
                rw [← HRR.out]
                exact ⟨_, true, rfl, Or.inl ⟨H * 3600 + M * 60 + S, by omega, hh, rfl, rfl⟩, rfl⟩)
              obtain ⟨x, hx⟩ : ∃ x : Int, (H : Int) * 3600 = x := ⟨_, rfl⟩
              obtain ⟨y, hy⟩ : ∃ y : Int, (M : Int) * 60 = y := ⟨_, rfl⟩
              obtain ⟨u, hu⟩ : ∃ u : Int, x + y = u := ⟨_, rfl⟩
              obtain ⟨v, hv⟩ : ∃ v : Int, u + (S : Int) = v := ⟨_, rfl⟩
              rw [show ((H * 3600 + M * 60 + S : Nat) : Int) = v by omega] at HF
              have p1 : IntKind.i64.wrap ((H : Int) * 3600) = x := by rw [hx]; exact IntWalk.i64_in _ (by omega)
              have p2 : wrap64 ((H : Int) * 3600) = x := by rw [hx]; exact IntWalk.wrap64_in _ (by omega)
              have p3 : IntKind.i64.wrap ((M : Int) * 60) = y := by rw [hy]; exact IntWalk.i64_in _ (by omega)
              have p4 : wrap64 ((M : Int) * 60) = y := by rw [hy]; exact IntWalk.wrap64_in _ (by omega)
              have p5 : IntKind.i64.wrap (x + y) = u := by rw [hu]; exact IntWalk.i64_in _ (by omega)
              have p6 : wrap64 (x + y) = u := by rw [hu]; exact IntWalk.wrap64_in _ (by omega)
              have p7 : IntKind.i64.wrap (u + (S : Int)) = v := by rw [hv]; exact IntWalk.i64_in _ (by omega)
              have p8 : wrap64 (u + (S : Int)) = v := by rw [hv]; exact IntWalk.wrap64_in _ (by omega)
              clear hx hy hu hv hh hH hM hS
              go_wp2_with fail
              exact HF.out
      · have hfI : ((f.toNat : Int) != 58) = true := by simp; omega
        have HF := Lib.hid (HNO.out (fun q hq hh => hf (by rw [(hms_of hq hh).2.1]; rfl)))
        obtain ⟨xc, hxc⟩ : ∃ x, c.toNat = x := ⟨_, rfl⟩
        obtain ⟨xf, hxf⟩ : ∃ x, f.toNat = x := ⟨_, rfl⟩
        rw [hxc] at g2 hcI hc; rw [hxf] at g5 hfI hf
        clear hxc hxf hR h8 hl K0 K1 K2
        go_enter Tryd.func21, Tryd.ntmps21
        go_wp2_with fail
        exact HF.out
    · have hcI : ((c.toNat : Int) != 58) = true := by simp; omega
      have HF := Lib.hid (HNO.out (fun q hq hh => hc (by rw [(hms_of hq hh).1]; rfl)))
      obtain ⟨xc, hxc⟩ : ∃ x, c.toNat = x := ⟨_, rfl⟩
      rw [hxc] at g2 hcI hc
      clear hxc hR h8 hl K0 K1 K2
      go_enter Tryd.func21, Tryd.ntmps21
      go_wp2_with fail
      exact HF.out
  · have HF := Lib.hid (tm_no (T := T) (w := w) (fun q _ hh => h8 (by rw [hh]; rfl)))
    obtain ⟨R, hR⟩ : ∃ R : Ending → World → Prop, TmE T w = R := ⟨_, rfl⟩
    rw [hR] at HF ⊢
    have hs : (bL T).size = T.length := bL_size _
    have hsz : ¬ (bL T).size = 8 := by omega
    have hsI : (((bL T).size : Int) != 8) = true := by simp; omega
    have hle : (bL T).size ≤ 1000 := by omega
    generalize bL T = s at *
    clear hR h8 hs
    go_enter Tryd.func21, Tryd.ntmps21
    go_wp2_with fail
    exact HF.out
end Go.Proofs.YtlckgdgmanmbhaaDoor
