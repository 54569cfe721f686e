/- Contracts of vet.checkSegment and vet.Check. -/
import Derived.Test.YtmnildjcnpfddaaDoorRows
import Derived.Test.YtmnildjcnpfddaaDoorRowKit
import Derived.Test.YtmnildjcnpfddaaDoorRowS
import Derived.Test.YtmnildjcnpfddaaDoorRowZ
import Derived.Test.YtmnildjcnpfddaaDoorBlocks
import Derived.Test.YtmnildjcnpfddaaDoorVetA
import Derived.Test.YtmnildjcnpfddaaDoorVetB
import Derived.Test.YtmnildjcnpfddaaDoorVetC
import Derived.WalkKit
import Derived.IntWalk
import Derived.Lib.Hide
import Derived.Lib.SmallJoins
import Derived.WalkSpells
import Derived.WalkLawsBesides
import Derived.Deep.QuietTactic
import Derived.Deep.RegionHeld3
import Derived.Deep.LoopGhost
import Derived.BigQuiet
import Derived.Below
import Derived.Lib.Strings
namespace Go.Proofs.YtmnildjcnpfddaaDoor
open Go.RowKit
set_option linter.unusedSimpArgs false
set_option linter.unusedVariables false
theorem segE_lo {k t r : Int} (h : k < 1) : segE k t r = 260 := by unfold segE; rw [if_pos (.inl h)]
theorem segE_hi {k t r : Int} (h : 4 < k) : segE k t r = 260 := by unfold segE; rw [if_pos (.inr h)]
theorem segE_bad {k t r : Int} (h1 : ¬ k < 1) (h2 : ¬ 4 < k) (h : inV 8 t = false ∨ inV 10 r = false) : segE k t r = 264 := by unfold segE; rw [if_neg (by omega), if_pos h]
theorem segE_ok {k t r : Int} (h1 : ¬ k < 1) (h2 : ¬ 4 < k) (h3 : inV 8 t = true) (h4 : inV 10 r = true) : segE k t r = 0 := by
  unfold segE; rw [if_neg (by omega), if_neg (by rw [h3, h4]; intro c; rcases c with c | c <;> cases c)]
set_option maxHeartbeats 2000000 in
theorem pcs_any (k t r : Int) (w : World) : Calls Tryd.prog 21 #[.agg #[.int .i64 k, .int .i64 t, .int .i64 r]] w fun e w' => e = .returned (.int .i64 (segE k t r)) ∧ Below w.heap.size w w' := by
  by_cases e1 : k < 1
  · rw [segE_lo e1]
    go_enter Tryd.func21, Tryd.ntmps21
    go_wp2_with fail
    go_ret
    exact ⟨rfl, (Below.refl _ _).alloc (Nat.le_refl _) _⟩
  by_cases e2 : 4 < k
  · rw [segE_hi e2]
    go_enter Tryd.func21, Tryd.ntmps21
    go_wp2_with fail
    go_ret
    exact ⟨rfl, (Below.refl _ _).alloc (Nat.le_refl _) _⟩
  have I1 := fun W => pin_ticks t W
  have I2 := fun W => pin_rate r W
  obtain ⟨x1, hx1⟩ : ∃ y, inV 8 t = y := ⟨_, rfl⟩
  obtain ⟨x2, hx2⟩ : ∃ y, inV 10 r = y := ⟨_, rfl⟩
  rw [hx1] at I1
  rw [hx2] at I2
  have H1 := Lib.hid I1
  have H2 := Lib.hid I2
  clear I1 I2
  cases x1
  · rw [segE_bad e1 e2 (.inl hx1)]
    clear hx1 hx2
    go_enter Tryd.func21, Tryd.ntmps21
    go_wp2_with (go_at_call 20; refine (H1.out _).mono ?_; rintro e w1 ⟨rfl, rfl⟩)
    go_ret
    exact ⟨rfl, (Below.refl _ _).alloc (Nat.le_refl _) _⟩
  · cases x2
    · rw [segE_bad e1 e2 (.inr hx2)]
      clear hx1 hx2
      go_enter Tryd.func21, Tryd.ntmps21
      go_wp2_with fail
      refine (H1.out _).mono ?_
      rintro e w1 ⟨rfl, rfl⟩
      go_wp2_with fail
      refine (H2.out _).mono ?_
      rintro e w1 ⟨rfl, rfl⟩
      go_wp2_with fail
      go_ret
      exact ⟨rfl, (Below.refl _ _).alloc (Nat.le_refl _) _⟩
    · rw [segE_ok e1 e2 hx1 hx2]
      clear hx1 hx2
      go_enter Tryd.func21, Tryd.ntmps21
      go_wp2_with fail
      refine (H1.out _).mono ?_
      rintro e w1 ⟨rfl, rfl⟩
      go_wp2_with fail
      refine (H2.out _).mono ?_
      rintro e w1 ⟨rfl, rfl⟩
      go_wp2_with fail
      go_ret
      exact ⟨rfl, (Below.refl _ _).alloc (Nat.le_refl _) _⟩
set_option maxRecDepth 100000 in
set_option maxHeartbeats 8000000 in
theorem pcheck_any (s0 s1 s2 s3 s4 s5 s6 s7 s9 s10 s11 s12 : Int) (A : Option Addr) (n c : Nat) (z : Nat → Nat → Int) (w : World) (hr : RdZ w 3 A n z) (hm : n ≤ 9223372036854775807) :
    Calls Tryd.prog 13 #[.agg #[.int .i64 s0, .int .i64 s1, .int .i64 s2, .int .i64 s3, .int .i64 s4, .int .i64 s5, .int .i64 s6, .int .i64 s7, .slice A n c, .int .i64 s9, .int .i64 s10, .int .i64 s11, .int .i64 s12]] w fun e w' => e = .returned (.int .i64 (ckA (numV s0 s1 s2 s3 s4 s5 s6 s7 s10 s11 s12) s9 n z)) ∧ Below w.heap.size w w' := by
  have HN0 := fun w => numbers_any s0 s1 s2 s3 s4 s5 s6 s7 s9 s10 s11 s12 A n c w
  obtain ⟨x, hx⟩ : ∃ x, numV s0 s1 s2 s3 s4 s5 s6 s7 s10 s11 s12 = x := ⟨_, rfl⟩
  rw [hx] at HN0 ⊢
  have HNU := Lib.hid HN0
  clear hx HN0
  go_enter Tryd.func13, Tryd.ntmps13
  go_wp2_with fail
  refine (HNU.out _).mono ?_
  rintro e w1 ⟨g, rfl, hnt, hb1⟩
  have l8 := Lib.hid (keepv hb1 (b := w.heap.size) (o := 8) (v := .slice A n c) (by rw [World.cell?_alloc_mark]; rfl))
  have l9 := Lib.hid (keepv hb1 (b := w.heap.size) (o := 9) (v := .int .i64 s9) (by rw [World.cell?_alloc_mark]; rfl))
  have HB1 := Lib.hid (((Below.refl w.heap.size w).alloc (Nat.le_refl _) (.cells #[.int .i64 s0, .int .i64 s1, .int .i64 s2, .int .i64 s3, .int .i64 s4, .int .i64 s5, .int .i64 s6, .int .i64 s7, .slice A n c, .int .i64 s9, .int .i64 s10, .int .i64 s11, .int .i64 s12] 25)).trans (hb1.mono (by simp)))
  have HNT := Lib.hid hnt
  clear hnt hb1
  go_wp2_with fail
  go_loopg [11] 11 (fun gh i wr => ∃ k : Nat, k ≤ 11 ∧ gh = 11 - k ∧ i = .int .i64 k ∧ Hid (NumsOk x k) ∧ Below w1.heap.size w1 wr)
  case atStart => exact ⟨0, by omega, rfl, rfl, Lib.hid (fun j hj => absurd hj (by omega)), Below.refl _ _⟩
  case round =>
    obtain ⟨k, hk, rfl, rfl, HN, hb⟩ := hrel
    by_cases h : k < 11
    · obtain ⟨cn, cx⟩ := HNT.out.next hb k h
      have I := fun W => pin_at (nmX k) (x k) W (nmX_lt k h)
      have NX := Lib.hid (fun h' => numsOk_succ HN.out (k := k) h')
      have NO := Lib.hid (fun (h' : inV (nmX k) (x k) = false) => ck_num (d := s9) (n := n) (z := z) h h')
      obtain ⟨sv, hs⟩ : ∃ y, nm (nmX k) = y := ⟨_, rfl⟩
      obtain ⟨xv, hxv⟩ : ∃ y, x k = y := ⟨_, rfl⟩
      obtain ⟨b, hbv⟩ : ∃ y, inV (nmX k) (x k) = y := ⟨_, rfl⟩
      rw [hbv] at NO NX
      rw [hs, hxv] at I
      rw [hs] at cn
      rw [hxv] at cx hbv
      rw [hbv] at I
      have HI := Lib.hid I
      have k0 : (0 : Int) ≤ (k : Int) := Int.natCast_nonneg _
      have k1 : (k : Int) < 11 := by omega
      have B1 := Lib.hid (hb.alloc hb.size (.cells #[.string sv, .int .i64 xv] 51))
      clear I hs hxv hbv
      cases b
      · have NE := Lib.hid (NO.out (by first | rfl | trivial))
        go_wp2_with (go_at_call 20; refine (HI.out _).mono ?_; rintro e w2 ⟨rfl, rfl⟩)
        go_ret
        exact ⟨vretI (by rw [NE.out]), HB1.out.trans (B1.out.mono HB1.out.size)⟩
      · have NE := Lib.hid (NX.out (by first | rfl | trivial))
        go_wp2_with (go_at_call 20; refine (HI.out _).mono ?_; rintro e w2 ⟨rfl, rfl⟩)
        go_roundg (11 - (k + 1))
        case measure => omega
        case rel => exact ⟨k + 1, by omega, rfl, by go_num, NE, B1.out⟩
    · obtain rfl : k = 11 := by omega
      have m8 := keepv hb l8.out
      have m9 := keepv hb l9.out
      have hb' := Lib.hid (HB1.out.trans (hb.mono HB1.out.size))
      rename World => w2
      by_cases d1 : s9 < 1
      · have E := Lib.hid (ck_dis (n := n) (z := z) HN.out (.inl d1))
        go_wp2_with fail
        go_ret
        exact ⟨vretI (by rw [E.out]), hb'.out⟩
      by_cases d2 : 4 < s9
      · have E := Lib.hid (ck_dis (n := n) (z := z) HN.out (.inr d2))
        go_wp2_with fail
        go_ret
        exact ⟨vretI (by rw [E.out]), hb'.out⟩
      have D := Lib.hid (show ¬ (s9 < 1 ∨ 4 < s9) by omega)
      by_cases n0 : n = 0
      · have E := Lib.hid (ck_lack (z := z) HN.out D.out n0)
        have b0 : (n == 0) = true := by rw [beq_iff_eq]; exact n0
        have b1 : ((n : Int) == 0) = true := by rw [beq_iff_eq]; omega
        clear n0
        go_wp2_with fail
        go_ret
        exact ⟨vretI (by rw [E.out]), hb'.out⟩
      have b0 : (n == 0) = false := by rw [beq_eq_false_iff_ne]; exact n0
      have b1 : ((n : Int) == 0) = false := by rw [beq_eq_false_iff_ne]; omega
      by_cases n8 : 8 < n
      · have E := Lib.hid (ck_size (z := z) HN.out D.out n8)
        clear n0
        go_wp2_with fail
        go_ret
        exact ⟨vretI (by rw [E.out]), hb'.out⟩
      have E := Lib.hid (ck_seg (z := z) HN.out D.out n0 n8)
      have HR2 := Lib.hid (hr.kept hb'.out)
      clear n0 hb
      go_wp2_with fail
      go_loopg [44] n (fun gh i wr => ∃ k : Nat, k ≤ n ∧ gh = n - k ∧ i = .int .i64 k ∧ Hid (segsE z k = 0) ∧ Below w2.heap.size w2 wr)
      case atStart => exact ⟨0, by omega, rfl, rfl, Lib.hid (segs_zero z), Below.refl _ _⟩
      case round =>
        obtain ⟨k, hk, rfl, rfl, HS, hb⟩ := hrel
        by_cases h : k < n
        · obtain ⟨b, off, rfl, hlt, hc⟩ := rdZ_row (HR2.out.kept hb) (by omega) (by omega)
          have c0 : wr.cell? ⟨b, off + k * 3, none⟩ = _ := hc k 0 h (by omega)
          have c1 := hc k 1 h (by omega)
          have c2 := hc k 2 h (by omega)
          clear hc
          have B1 := Lib.hid (hb.alloc hb.size (.cells #[.int .i64 (z k 0), .int .i64 (z k 1), .int .i64 (z k 2)] 42))
          have N1 := segs_next HS.out
          have BAD := Lib.hid (show segE (z k 0) (z k 1) (z k 2) ≠ 0 → segsE z n = segE (z k 0) (z k 1) (z k 2) from fun hv => by rw [segs_stay (k := k + 1) (by rw [N1]; exact hv) n (by omega), N1])
          have GOOD := Lib.hid (show segE (z k 0) (z k 1) (z k 2) = 0 → segsE z (k + 1) = 0 from fun he => by rw [N1, he])
          have T := fun w => pcs_any (z k 0) (z k 1) (z k 2) w
          obtain ⟨v, hv⟩ : ∃ v, segE (z k 0) (z k 1) (z k 2) = v := ⟨_, rfl⟩
          rw [hv] at BAD GOOD T
          have HT := Lib.hid T
          clear N1 T hv
          by_cases v0 : v = 0
          · subst v0
            have F := Lib.hid (GOOD.out rfl)
            go_wp2_with (go_at_call 21; refine (HT.out _).mono ?_; rintro e w3 ⟨rfl, hb3⟩)
            go_roundg (n - (k + 1))
            case measure => omega
            case rel => exact ⟨k + 1, by omega, rfl, by go_num, F, B1.out.trans (Joins.below_le hb3 B1.out.size)⟩
          · have F := Lib.hid (BAD.out v0)
            have vb : (v == 0) = false := by rw [beq_eq_false_iff_ne]; exact v0
            go_wp2_with (go_at_call 21; refine (HT.out _).mono ?_; rintro e w3 ⟨rfl, hb3⟩)
            go_ret
            exact ⟨vretI (by rw [E.out, F.out]), hb'.out.trans ((B1.out.trans (Joins.below_le hb3 B1.out.size)).mono hb'.out.size)⟩
        · obtain rfl : k = n := by omega
          go_wp2_with fail
          go_ret
          exact ⟨vretI (by rw [E.out, HS.out]), hb'.out.trans (hb.mono hb'.out.size)⟩
end Go.Proofs.YtmnildjcnpfddaaDoor
