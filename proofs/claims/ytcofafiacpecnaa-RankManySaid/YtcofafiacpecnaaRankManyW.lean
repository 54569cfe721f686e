/- The walk of RankMany: it answers true for every input, and leaves all old blocks as they were. No condition. -/
import Derived.Test.YtcofafiacpecnaaRows
import Derived.Test.YtcofafiacpecnaaRowKit
import Derived.Test.YtcofafiacpecnaaSlicesEq
import Derived.Test.YtcofafiacpecnaaSlicesEqM
import Derived.Test.YtcofafiacpecnaaRowL
import Derived.Test.YtcofafiacpecnaaMakeI
import Derived.Test.YtcofafiacpecnaaShelf
import Derived.Test.YtcofafiacpecnaaSeqA
import Derived.Test.YtcofafiacpecnaaSeqB
import Derived.Test.YtcofafiacpecnaaRankMath
import Derived.Test.YtcofafiacpecnaaRankA
import Derived.Test.YtcofafiacpecnaaRankB
import Derived.Test.YtcofafiacpecnaaRankC
import Derived.WalkKit
import Derived.ProofKit
import Derived.OpenShut
import Derived.Deep.QuietTactic
import Derived.BigQuiet
import Derived.Lib.SmallJoins
import Derived.Lib.Hide
import Derived.WalkSpells
import Derived.WalkLawsBesides
import Derived.IntWalk
import Derived.Deep.LoopGhost
namespace Go.Proofs.Ytcofafiacpecnaa.rankMany
open Go.ChangeShapes Go.WideShapes Go.ChangeAt Go.RowKit Go.Joins
set_option linter.unusedSimpArgs false
set_option linter.unusedVariables false

theorem bvalf {b c : Bool} (h : b = c) : Value.bool b = Value.bool c := by rw [h]
/-- one of the first so many is no percentile that may be -/
theorem ends_x {zs : List Int} {n t : Nat} {lo hi : Int} (E : EndR zs n lo hi) (hn : zs.length = n) (ht : t < n) : lo ≤ zat (srt zs) t ∧ zat (srt zs) t ≤ hi := by
  obtain ⟨i, h1, e⟩ := srt_in (zs := zs) (k := t) (by omega)
  rw [← e]
  exact ⟨E.l i (by omega), E.h i (by omega)⟩
/-- the counts below the least, and at the greatest -/
theorem lo_norm {zs : List Int} {n : Nat} {lo hi : Int} (E : EndR zs n lo hi) : blN zs (lo - 1) n = 0 := bl_zero fun i h => by have := E.l i h; omega
theorem hi_all {zs : List Int} {n : Nat} {lo hi : Int} (E : EndR zs n lo hi) : blN zs hi n = n := bl_all fun i h => E.h i h
theorem all_top {zs : List Int} {n : Nat} (h : ∀ i, i < n → zat zs i ≤ 9223372036854775807) : blN zs 9223372036854775807 n = n := bl_all h
set_option maxRecDepth 100000 in
set_option maxHeartbeats 8000000 in
theorem walk_ok_norm (P A : Option Addr) (d c m n : Nat) (ps zs : List Int) (w : World) (hm : ps.length = m) (hn : zs.length = n) (hp : RdI w .i64 P ps) (hr : RdI w .i64 A zs) (m1 : m ≤ 50) (n1 : n ≤ 100) (n0 : 1 ≤ n) (hok : ∀ i, i < m → 1 ≤ zat ps i ∧ zat ps i ≤ 100) (lo hi : Int) (EN : EndR zs n lo hi) (HEnds : ∀ w', RdI w' .i64 A zs → Calls Try.prog 61 #[.slice A n c] w' fun e w'' => e = .returned (.tuple #[.int .i64 lo, .int .i64 hi, .bool true]) ∧ w' = w'') (hlo : -9223372036854775808 < lo) :
    Calls Try.prog 13 #[.slice P m d, .slice A n c] w fun e w' => e = .returned (.bool true) ∧ Below w.heap.size w w' := by
  have KM := Lib.hid (rmany_ok P A d c m n ps zs w hm hn hp hr (by omega) (by omega) (fun i hi => ⟨(hok i hi).1, (hok i hi).2, n0⟩))
  have OK := Lib.hid hok
  have KH := Lib.hid (fun w (h : RdI w .i64 A zs) => lbelow_any hi A c n zs w hn h (by omega))
  rw [hi_all EN] at KH
  have KL := Lib.hid (fun w (h : RdI w .i64 A zs) => lbelow_any (lo - 1) A c n zs w hn h (by omega))
  rw [lo_norm EN] at KL
  have lg : -9223372036854775808 < lo := hlo
  have KE := Lib.hid HEnds
  obtain ⟨lb0, lb1⟩ : -9223372036854775808 ≤ lo ∧ lo ≤ 9223372036854775807 := by
    obtain ⟨i, hi, e⟩ := EN.m
    obtain ⟨_, _, _, _, hw⟩ := hr i (by omega)
    rw [← e]; exact bounds_i64 hw
  have q1 : ((n : Int) != (n : Int)) = false := by simp
  have q2 : (n != n) = false := by simp
  have q3 : ((m : Int) != (m : Int)) = false := by simp
  have q4 : (m != m) = false := by simp
  have nz1 : ((n : Int) == 0) = false := by rw [beq_eq_false_iff_ne]; omega
  have nz2 : (n == 0) = false := by rw [beq_eq_false_iff_ne]; omega
  have np1 : decide ((0 : Int) < (n : Int)) = true := decide_eq_true (by omega)
  have np2 : decide (0 < n) = true := decide_eq_true (by omega)
  have np3 : 0 < n := by omega
  have HPP := Lib.hid hp
  have HRR := Lib.hid hr
  have HM := Lib.hid hm
  have HN := Lib.hid hn
  have HEN := Lib.hid EN
  clear hm hn hp hr hok EN HEnds hlo
  go_enter Try.func13, Try.ntmps13
  go_wp2_with fail
  refine KM.out.mono ?_
  rintro e w1 ⟨Z, cz, rfl, hZ, hb1⟩
  have HB1 := Lib.hid hb1
  have HR1 := Lib.hid (HRR.out.kept hb1)
  have HP1 := Lib.hid (HPP.out.kept hb1)
  have HZ1 := Lib.hid hZ
  clear hb1 hZ
  go_wp2_with fail
  refine (KE.out _ HR1.out).mono ?_
  rintro e w2 ⟨rfl, rfl⟩
  go_wp2_with fail
  go_loopg [10, 11] m (fun g b i wr => ∃ k : Nat, k ≤ m ∧ g = m - k ∧ i = .int .i64 k ∧ b = .bool false ∧ wr = w1)
  case atStart => exact ⟨0, by omega, by omega, rfl, rfl, rfl⟩
  case round =>
    obtain ⟨k, hk, rfl, rfl, rfl, rfl⟩ := hrel
    by_cases h : k < m
    · obtain ⟨o1, o2⟩ := OK.out k h
      obtain ⟨b, off, rfl, hlt, hc⟩ := rdI_row HP1.out (by have := HM.out; omega)
      have ck := hc k (by have := HM.out; omega)
      obtain ⟨p, hp⟩ : ∃ p, zat ps k = p := ⟨_, rfl⟩
      rw [hp] at ck o1 o2
      clear hc hp
      go_wp2_with fail
      go_roundg (m - (k + 1))
      case measure => omega
      case rel => exact ⟨k + 1, by omega, rfl, by go_num, bvalf (by simp; omega), rfl⟩
    · obtain rfl : k = m := by omega
      clear hk h
      rename World => w1
      go_wp2_with fail
      refine (KL.out _ HR1.out).mono ?_
      rintro e w2 ⟨rfl, rfl⟩
      go_wp2_with fail
      refine (KH.out _ HR1.out).mono ?_
      rintro e w2 ⟨rfl, rfl⟩
      go_wp2_with fail
      go_loopw [12] (fun i wr => ∃ j : Nat, j ≤ k ∧ i = .int .i64 j ∧ Below w1.heap.size w1 wr) (fun i _ => k - (intOf i).toNat)
      case atStart => exact ⟨0, by omega, rfl, Below.refl _ _⟩
      case round =>
        obtain ⟨j, hj, rfl, hb⟩ := hrel
        by_cases h : j < k
        · obtain ⟨o1, o2⟩ := OK.out j h
          have RP := HP1.out.kept hb
          obtain ⟨b, off, rfl, hlt, hc⟩ := rdI_row RP (by have := HM.out; omega)
          have cj := hc j (by have := HM.out; omega)
          have MO := Lib.hid (fun i (e : zat ps i ≤ zat ps j) => pct_mono (zs := zs) e o1 o2 (by have := HN.out; omega) (by have := HN.out; omega))
          obtain ⟨p, hp⟩ : ∃ p, zat ps j = p := ⟨_, rfl⟩
          obtain ⟨t, ht⟩ : ∃ t, (plI p n).toNat - 1 = t := ⟨_, rfl⟩
          rw [hp] at cj o1 o2 MO
          have tn := (rplace_t p n t wr o1 o2 n0 (by omega) ht).1
          obtain ⟨x1, x2⟩ := ends_x HEN.out HN.out tn
          have KO := rof_ok p A c n t zs wr HN.out (HR1.out.kept hb) o1 o2 n0 (by omega) ht
          have ex : pctS zs ps j = zat (srt zs) t := by unfold pctS; rw [hp, HN.out, ht]
          rw [ex] at MO
          obtain ⟨x, hx⟩ : ∃ x, zat (srt zs) t = x := ⟨_, rfl⟩
          rw [hx] at x1 x2 KO ex MO
          have HO := Lib.hid KO
          have EX := Lib.hid ex
          have HPJ := Lib.hid hp
          have qx : (x != x) = false := by simp
          have HBJ := Lib.hid hb
          clear hc RP KO ex hx ht hp
          go_wp2_with fail
          refine HO.out.mono ?_
          rintro e w3 ⟨rfl, hb3⟩
          have B3 := Lib.hid (HBJ.out.trans (hb3.mono HBJ.out.size))
          have RP := HP1.out.kept B3.out
          obtain ⟨b', off', e', _, hcp⟩ := rdI_row RP (by have := HM.out; omega)
          cases e'
          have RZ := HZ1.out.kept B3.out
          obtain ⟨bz, oz, rfl, _, hcz⟩ := rdI_row RZ (by rw [rowL_len]; omega)
          have HCP := Lib.hid hcp
          have HCZ := Lib.hid hcz
          have cz' := hcz j (by rw [rowL_len]; exact h)
          rw [rowL_at _ h, EX.out] at cz'
          clear hcp hcz RP RZ hb3
          go_wp2_with fail
          go_loopg [15] k (fun g i wr' => ∃ l q : Nat, l ≤ k ∧ g = k - l ∧ i = .int .i64 l ∧ wr' = w3.drewN q)
          case atStart => exact ⟨0, 0, by omega, by omega, rfl, rfl⟩
          case round =>
            obtain ⟨l, q, hl, rfl, rfl, rfl⟩ := hrel
            by_cases hlk : l < k
            · have c1 := HCP.out l (by have := HM.out; omega)
              have c2 := HCP.out j (by have := HM.out; omega)
              rw [HPJ.out] at c2
              have c3 := HCZ.out l (by rw [rowL_len]; exact hlk)
              rw [rowL_at _ hlk] at c3
              have mo := MO.out l
              obtain ⟨pl, hpl⟩ : ∃ pl, zat ps l = pl := ⟨_, rfl⟩
              obtain ⟨y, hy⟩ : ∃ y, pctS zs ps l = y := ⟨_, rfl⟩
              rw [hpl] at c1 mo
              rw [hy] at c3 mo
              by_cases dp : pl ≤ p
              · have dd : decide (pl ≤ p) = true := decide_eq_true dp
                have dy : decide (x < y) = false := decide_eq_false (by have := mo dp; omega)
                clear mo hpl hy dp
                go_wp2_with fail
                go_quiet (fail)
                go_wp2_with fail
                go_roundg (k - (l + 1))
                case measure => omega
                case rel => exact ⟨l + 1, _, by omega, rfl, by go_num, rfl⟩
              · have dd : decide (pl ≤ p) = false := decide_eq_false dp
                clear mo hpl hy dp
                go_wp2_with fail
                go_quiet (fail)
                go_wp2_with fail
                go_roundg (k - (l + 1))
                case measure => omega
                case rel => exact ⟨l + 1, _, by omega, rfl, by go_num, rfl⟩
            · obtain rfl : l = k := by omega
              go_wp2_with fail
              go_roundw
              case rel => exact ⟨j + 1, by omega, by go_num, below_drewN B3.out _⟩
              case measure => simp [intOf]; omega
        · obtain rfl : j = k := by omega
          have HBJ := Lib.hid hb
          go_wp2_with (go_at_call 56; refine (rkalive _).mono ?_; rintro e w9 ⟨rfl, hb9⟩)
          go_ret
          have q := HB1.out.trans (HBJ.out.mono HB1.out.size)
          exact ⟨rfl, q.trans (hb9.mono q.size)⟩
set_option maxRecDepth 100000 in
set_option maxHeartbeats 8000000 in
theorem walk_ok_min (P A : Option Addr) (d c m n : Nat) (ps zs : List Int) (w : World) (hm : ps.length = m) (hn : zs.length = n) (hp : RdI w .i64 P ps) (hr : RdI w .i64 A zs) (m1 : m ≤ 50) (n1 : n ≤ 100) (n0 : 1 ≤ n) (hok : ∀ i, i < m → 1 ≤ zat ps i ∧ zat ps i ≤ 100) (lo hi : Int) (EN : EndR zs n lo hi) (HEnds : ∀ w', RdI w' .i64 A zs → Calls Try.prog 61 #[.slice A n c] w' fun e w'' => e = .returned (.tuple #[.int .i64 lo, .int .i64 hi, .bool true]) ∧ w' = w'') (hlo : lo = -9223372036854775808) :
    Calls Try.prog 13 #[.slice P m d, .slice A n c] w fun e w' => e = .returned (.bool true) ∧ Below w.heap.size w w' := by
  have KM := Lib.hid (rmany_ok P A d c m n ps zs w hm hn hp hr (by omega) (by omega) (fun i hi => ⟨(hok i hi).1, (hok i hi).2, n0⟩))
  have OK := Lib.hid hok
  have KH := Lib.hid (fun w (h : RdI w .i64 A zs) => lbelow_any hi A c n zs w hn h (by omega))
  rw [hi_all EN] at KH
  have KL := Lib.hid (fun w (h : RdI w .i64 A zs) => lbelow_any 9223372036854775807 A c n zs w hn h (by omega))
  rw [all_top (zs := zs) (n := n) (fun i hi => by obtain ⟨_, _, _, _, hw⟩ := hr i (by omega); exact (bounds_i64 hw).2)] at KL
  have lw : wrap64 (lo - 1) = 9223372036854775807 := by unfold wrap64; omega
  have lg : ¬ -9223372036854775808 < lo := by omega
  have lg2 : decide (-9223372036854775808 < lo) = false := decide_eq_false lg
  have nn1 : ((n : Int) != 0) = true := by simp; omega
  have nn2 : (n != 0) = true := by simp; omega
  have KE := Lib.hid HEnds
  obtain ⟨lb0, lb1⟩ : -9223372036854775808 ≤ lo ∧ lo ≤ 9223372036854775807 := by
    obtain ⟨i, hi, e⟩ := EN.m
    obtain ⟨_, _, _, _, hw⟩ := hr i (by omega)
    rw [← e]; exact bounds_i64 hw
  have q1 : ((n : Int) != (n : Int)) = false := by simp
  have q2 : (n != n) = false := by simp
  have q3 : ((m : Int) != (m : Int)) = false := by simp
  have q4 : (m != m) = false := by simp
  have nz1 : ((n : Int) == 0) = false := by rw [beq_eq_false_iff_ne]; omega
  have nz2 : (n == 0) = false := by rw [beq_eq_false_iff_ne]; omega
  have np1 : decide ((0 : Int) < (n : Int)) = true := decide_eq_true (by omega)
  have np2 : decide (0 < n) = true := decide_eq_true (by omega)
  have np3 : 0 < n := by omega
  have HPP := Lib.hid hp
  have HRR := Lib.hid hr
  have HM := Lib.hid hm
  have HN := Lib.hid hn
  have HEN := Lib.hid EN
  clear hm hn hp hr hok EN HEnds hlo
  go_enter Try.func13, Try.ntmps13
  go_wp2_with fail
  refine KM.out.mono ?_
  rintro e w1 ⟨Z, cz, rfl, hZ, hb1⟩
  have HB1 := Lib.hid hb1
  have HR1 := Lib.hid (HRR.out.kept hb1)
  have HP1 := Lib.hid (HPP.out.kept hb1)
  have HZ1 := Lib.hid hZ
  clear hb1 hZ
  go_wp2_with fail
  refine (KE.out _ HR1.out).mono ?_
  rintro e w2 ⟨rfl, rfl⟩
  go_wp2_with fail
  go_loopg [10, 11] m (fun g b i wr => ∃ k : Nat, k ≤ m ∧ g = m - k ∧ i = .int .i64 k ∧ b = .bool false ∧ wr = w1)
  case atStart => exact ⟨0, by omega, by omega, rfl, rfl, rfl⟩
  case round =>
    obtain ⟨k, hk, rfl, rfl, rfl, rfl⟩ := hrel
    by_cases h : k < m
    · obtain ⟨o1, o2⟩ := OK.out k h
      obtain ⟨b, off, rfl, hlt, hc⟩ := rdI_row HP1.out (by have := HM.out; omega)
      have ck := hc k (by have := HM.out; omega)
      obtain ⟨p, hp⟩ : ∃ p, zat ps k = p := ⟨_, rfl⟩
      rw [hp] at ck o1 o2
      clear hc hp
      go_wp2_with fail
      go_roundg (m - (k + 1))
      case measure => omega
      case rel => exact ⟨k + 1, by omega, rfl, by go_num, bvalf (by simp; omega), rfl⟩
    · obtain rfl : k = m := by omega
      clear hk h
      rename World => w1
      go_wp2_with fail
      refine (KL.out _ HR1.out).mono ?_
      rintro e w2 ⟨rfl, rfl⟩
      go_wp2_with fail
      refine (KH.out _ HR1.out).mono ?_
      rintro e w2 ⟨rfl, rfl⟩
      go_wp2_with fail
      go_loopw [12] (fun i wr => ∃ j : Nat, j ≤ k ∧ i = .int .i64 j ∧ Below w1.heap.size w1 wr) (fun i _ => k - (intOf i).toNat)
      case atStart => exact ⟨0, by omega, rfl, Below.refl _ _⟩
      case round =>
        obtain ⟨j, hj, rfl, hb⟩ := hrel
        by_cases h : j < k
        · obtain ⟨o1, o2⟩ := OK.out j h
          have RP := HP1.out.kept hb
          obtain ⟨b, off, rfl, hlt, hc⟩ := rdI_row RP (by have := HM.out; omega)
          have cj := hc j (by have := HM.out; omega)
          have MO := Lib.hid (fun i (e : zat ps i ≤ zat ps j) => pct_mono (zs := zs) e o1 o2 (by have := HN.out; omega) (by have := HN.out; omega))
          obtain ⟨p, hp⟩ : ∃ p, zat ps j = p := ⟨_, rfl⟩
          obtain ⟨t, ht⟩ : ∃ t, (plI p n).toNat - 1 = t := ⟨_, rfl⟩
          rw [hp] at cj o1 o2 MO
          have tn := (rplace_t p n t wr o1 o2 n0 (by omega) ht).1
          obtain ⟨x1, x2⟩ := ends_x HEN.out HN.out tn
          have KO := rof_ok p A c n t zs wr HN.out (HR1.out.kept hb) o1 o2 n0 (by omega) ht
          have ex : pctS zs ps j = zat (srt zs) t := by unfold pctS; rw [hp, HN.out, ht]
          rw [ex] at MO
          obtain ⟨x, hx⟩ : ∃ x, zat (srt zs) t = x := ⟨_, rfl⟩
          rw [hx] at x1 x2 KO ex MO
          have HO := Lib.hid KO
          have EX := Lib.hid ex
          have HPJ := Lib.hid hp
          have qx : (x != x) = false := by simp
          have HBJ := Lib.hid hb
          clear hc RP KO ex hx ht hp
          go_wp2_with fail
          refine HO.out.mono ?_
          rintro e w3 ⟨rfl, hb3⟩
          have B3 := Lib.hid (HBJ.out.trans (hb3.mono HBJ.out.size))
          have RP := HP1.out.kept B3.out
          obtain ⟨b', off', e', _, hcp⟩ := rdI_row RP (by have := HM.out; omega)
          cases e'
          have RZ := HZ1.out.kept B3.out
          obtain ⟨bz, oz, rfl, _, hcz⟩ := rdI_row RZ (by rw [rowL_len]; omega)
          have HCP := Lib.hid hcp
          have HCZ := Lib.hid hcz
          have cz' := hcz j (by rw [rowL_len]; exact h)
          rw [rowL_at _ h, EX.out] at cz'
          clear hcp hcz RP RZ hb3
          go_wp2_with fail
          go_loopg [15] k (fun g i wr' => ∃ l q : Nat, l ≤ k ∧ g = k - l ∧ i = .int .i64 l ∧ wr' = w3.drewN q)
          case atStart => exact ⟨0, 0, by omega, by omega, rfl, rfl⟩
          case round =>
            obtain ⟨l, q, hl, rfl, rfl, rfl⟩ := hrel
            by_cases hlk : l < k
            · have c1 := HCP.out l (by have := HM.out; omega)
              have c2 := HCP.out j (by have := HM.out; omega)
              rw [HPJ.out] at c2
              have c3 := HCZ.out l (by rw [rowL_len]; exact hlk)
              rw [rowL_at _ hlk] at c3
              have mo := MO.out l
              obtain ⟨pl, hpl⟩ : ∃ pl, zat ps l = pl := ⟨_, rfl⟩
              obtain ⟨y, hy⟩ : ∃ y, pctS zs ps l = y := ⟨_, rfl⟩
              rw [hpl] at c1 mo
              rw [hy] at c3 mo
              by_cases dp : pl ≤ p
              · have dd : decide (pl ≤ p) = true := decide_eq_true dp
                have dy : decide (x < y) = false := decide_eq_false (by have := mo dp; omega)
                clear mo hpl hy dp
                go_wp2_with fail
                go_quiet (fail)
                go_wp2_with fail
                go_roundg (k - (l + 1))
                case measure => omega
                case rel => exact ⟨l + 1, _, by omega, rfl, by go_num, rfl⟩
              · have dd : decide (pl ≤ p) = false := decide_eq_false dp
                clear mo hpl hy dp
                go_wp2_with fail
                go_quiet (fail)
                go_wp2_with fail
                go_roundg (k - (l + 1))
                case measure => omega
                case rel => exact ⟨l + 1, _, by omega, rfl, by go_num, rfl⟩
            · obtain rfl : l = k := by omega
              go_wp2_with fail
              go_roundw
              case rel => exact ⟨j + 1, by omega, by go_num, below_drewN B3.out _⟩
              case measure => simp [intOf]; omega
        · obtain rfl : j = k := by omega
          have HBJ := Lib.hid hb
          go_wp2_with (go_at_call 56; refine (rkalive _).mono ?_; rintro e w9 ⟨rfl, hb9⟩)
          go_ret
          have q := HB1.out.trans (HBJ.out.mono HB1.out.size)
          exact ⟨rfl, q.trans (hb9.mono q.size)⟩
set_option maxRecDepth 100000 in
set_option maxHeartbeats 4000000 in
theorem walk_bad_norm (P A : Option Addr) (d c m n : Nat) (ps zs : List Int) (w : World) (hm : ps.length = m) (hn : zs.length = n) (hp : RdI w .i64 P ps) (hr : RdI w .i64 A zs) (m1 : m ≤ 50) (n1 : n ≤ 100) (n0 : 1 ≤ n) (j : Nat) (hj : j < m) (hok : ∀ i, i < j → 1 ≤ zat ps i ∧ zat ps i ≤ 100) (hno : zat ps j < 1 ∨ 100 < zat ps j) (lo hi : Int) (EN : EndR zs n lo hi) (HEnds : ∀ w', RdI w' .i64 A zs → Calls Try.prog 61 #[.slice A n c] w' fun e w'' => e = .returned (.tuple #[.int .i64 lo, .int .i64 hi, .bool true]) ∧ w' = w'') (hlo : -9223372036854775808 < lo) :
    Calls Try.prog 13 #[.slice P m d, .slice A n c] w fun e w' => e = .returned (.bool true) ∧ Below w.heap.size w w' := by
  have KM := Lib.hid (rmany_no P A d c m n j ps zs w hm hn hp hr (by omega) (by omega) hj (fun i hi => ⟨(hok i hi).1, (hok i hi).2, n0⟩) (by omega))
  have OK := Lib.hid hok
  have NO := Lib.hid hno
  have KH := Lib.hid (fun w (h : RdI w .i64 A zs) => lbelow_any hi A c n zs w hn h (by omega))
  rw [hi_all EN] at KH
  have KL := Lib.hid (fun w (h : RdI w .i64 A zs) => lbelow_any (lo - 1) A c n zs w hn h (by omega))
  rw [lo_norm EN] at KL
  have lg : -9223372036854775808 < lo := hlo
  have KE := Lib.hid HEnds
  obtain ⟨lb0, lb1⟩ : -9223372036854775808 ≤ lo ∧ lo ≤ 9223372036854775807 := by
    obtain ⟨i, hi, e⟩ := EN.m
    obtain ⟨_, _, _, _, hw⟩ := hr i (by omega)
    rw [← e]; exact bounds_i64 hw
  have q1 : ((n : Int) != (n : Int)) = false := by simp
  have q2 : (n != n) = false := by simp
  have q3 : ((m : Int) != (m : Int)) = false := by simp
  have q4 : (m != m) = false := by simp
  have nz1 : ((n : Int) == 0) = false := by rw [beq_eq_false_iff_ne]; omega
  have nz2 : (n == 0) = false := by rw [beq_eq_false_iff_ne]; omega
  have np1 : decide ((0 : Int) < (n : Int)) = true := decide_eq_true (by omega)
  have np2 : decide (0 < n) = true := decide_eq_true (by omega)
  have np3 : 0 < n := by omega
  have HPP := Lib.hid hp
  have HRR := Lib.hid hr
  have HM := Lib.hid hm
  have HN := Lib.hid hn
  have HEN := Lib.hid EN
  clear hm hn hp hr hok EN HEnds hlo hno
  go_enter Try.func13, Try.ntmps13
  go_wp2_with fail
  refine KM.out.mono ?_
  rintro e w1 ⟨rfl, hb1⟩
  have HB1 := Lib.hid hb1
  have HR1 := Lib.hid (HRR.out.kept hb1)
  have HP1 := Lib.hid (HPP.out.kept hb1)
  clear hb1
  go_wp2_with fail
  refine (KE.out _ HR1.out).mono ?_
  rintro e w2 ⟨rfl, rfl⟩
  go_wp2_with fail
  go_loopg [10, 11] m (fun g b i wr => ∃ k : Nat, k ≤ m ∧ g = m - k ∧ i = .int .i64 k ∧ b = .bool (decide (j < k)) ∧ wr = w1)
  case atStart => exact ⟨0, by omega, by omega, rfl, bvalf (by simp), rfl⟩
  case round =>
    obtain ⟨k, hk, rfl, rfl, rfl, rfl⟩ := hrel
    by_cases h : k < m
    · obtain ⟨b, off, rfl, hlt, hc⟩ := rdI_row HP1.out (by have := HM.out; omega)
      have ck := hc k (by have := HM.out; omega)
      by_cases hkj : k < j
      · rw [show decide (j < k) = false from decide_eq_false (by omega)]
        have E := Lib.hid (show decide (j < k + 1) = false from decide_eq_false (by omega))
        obtain ⟨o1, o2⟩ := OK.out k hkj
        obtain ⟨p, hp⟩ : ∃ p, zat ps k = p := ⟨_, rfl⟩
        rw [hp] at ck o1 o2
        clear hc hp
        go_wp2_with fail
        go_roundg (m - (k + 1))
        case measure => omega
        case rel => exact ⟨k + 1, by omega, rfl, by go_num, bvalf (by rw [E.out]; simp; omega), rfl⟩
      · by_cases hkj2 : k = j
        · rw [show decide (j < k) = false from decide_eq_false (by omega)]
          have E := Lib.hid (show decide (j < k + 1) = true from decide_eq_true (by omega))
          have no := NO.out
          rw [← hkj2] at no
          obtain ⟨p, hp⟩ : ∃ p, zat ps k = p := ⟨_, rfl⟩
          rw [hp] at ck no
          clear hc hp hkj2
          by_cases p1 : p < 1
          · clear no
            go_wp2_with fail
            go_roundg (m - (k + 1))
            case measure => omega
            case rel => exact ⟨k + 1, by omega, rfl, by go_num, bvalf (by rw [E.out] <;> simp <;> try omega), rfl⟩
          · by_cases p2 : 100 < p
            · clear no
              go_wp2_with fail
              go_roundg (m - (k + 1))
              case measure => omega
              case rel => exact ⟨k + 1, by omega, rfl, by go_num, bvalf (by rw [E.out] <;> simp <;> try omega), rfl⟩
            · exfalso; omega
        · rw [show decide (j < k) = true from decide_eq_true (by omega)]
          have E := Lib.hid (show decide (j < k + 1) = true from decide_eq_true (by omega))
          clear hc
          go_wp2_with fail
          go_roundg (m - (k + 1))
          case measure => omega
          case rel => exact ⟨k + 1, by omega, rfl, by go_num, bvalf (by rw [E.out]), rfl⟩
    · obtain rfl : k = m := by omega
      rw [show decide (j < k) = true from decide_eq_true (by omega)]
      clear hk h
      rename World => w1
      go_wp2_with fail
      refine (KL.out _ HR1.out).mono ?_
      rintro e w2 ⟨rfl, rfl⟩
      go_wp2_with fail
      refine (KH.out _ HR1.out).mono ?_
      rintro e w2 ⟨rfl, rfl⟩
      go_wp2_with (go_at_call 56; refine (rkalive _).mono ?_; rintro e w9 ⟨rfl, hb9⟩)
      go_ret
      exact ⟨rfl, HB1.out.trans (hb9.mono HB1.out.size)⟩
set_option maxRecDepth 100000 in
set_option maxHeartbeats 4000000 in
theorem walk_bad_min (P A : Option Addr) (d c m n : Nat) (ps zs : List Int) (w : World) (hm : ps.length = m) (hn : zs.length = n) (hp : RdI w .i64 P ps) (hr : RdI w .i64 A zs) (m1 : m ≤ 50) (n1 : n ≤ 100) (n0 : 1 ≤ n) (j : Nat) (hj : j < m) (hok : ∀ i, i < j → 1 ≤ zat ps i ∧ zat ps i ≤ 100) (hno : zat ps j < 1 ∨ 100 < zat ps j) (lo hi : Int) (EN : EndR zs n lo hi) (HEnds : ∀ w', RdI w' .i64 A zs → Calls Try.prog 61 #[.slice A n c] w' fun e w'' => e = .returned (.tuple #[.int .i64 lo, .int .i64 hi, .bool true]) ∧ w' = w'') (hlo : lo = -9223372036854775808) :
    Calls Try.prog 13 #[.slice P m d, .slice A n c] w fun e w' => e = .returned (.bool true) ∧ Below w.heap.size w w' := by
  have KM := Lib.hid (rmany_no P A d c m n j ps zs w hm hn hp hr (by omega) (by omega) hj (fun i hi => ⟨(hok i hi).1, (hok i hi).2, n0⟩) (by omega))
  have OK := Lib.hid hok
  have NO := Lib.hid hno
  have KH := Lib.hid (fun w (h : RdI w .i64 A zs) => lbelow_any hi A c n zs w hn h (by omega))
  rw [hi_all EN] at KH
  have KL := Lib.hid (fun w (h : RdI w .i64 A zs) => lbelow_any 9223372036854775807 A c n zs w hn h (by omega))
  rw [all_top (zs := zs) (n := n) (fun i hi => by obtain ⟨_, _, _, _, hw⟩ := hr i (by omega); exact (bounds_i64 hw).2)] at KL
  have lw : wrap64 (lo - 1) = 9223372036854775807 := by unfold wrap64; omega
  have lg : ¬ -9223372036854775808 < lo := by omega
  have lg2 : decide (-9223372036854775808 < lo) = false := decide_eq_false lg
  have nn1 : ((n : Int) != 0) = true := by simp; omega
  have nn2 : (n != 0) = true := by simp; omega
  have KE := Lib.hid HEnds
  obtain ⟨lb0, lb1⟩ : -9223372036854775808 ≤ lo ∧ lo ≤ 9223372036854775807 := by
    obtain ⟨i, hi, e⟩ := EN.m
    obtain ⟨_, _, _, _, hw⟩ := hr i (by omega)
    rw [← e]; exact bounds_i64 hw
  have q1 : ((n : Int) != (n : Int)) = false := by simp
  have q2 : (n != n) = false := by simp
  have q3 : ((m : Int) != (m : Int)) = false := by simp
  have q4 : (m != m) = false := by simp
  have nz1 : ((n : Int) == 0) = false := by rw [beq_eq_false_iff_ne]; omega
  have nz2 : (n == 0) = false := by rw [beq_eq_false_iff_ne]; omega
  have np1 : decide ((0 : Int) < (n : Int)) = true := decide_eq_true (by omega)
  have np2 : decide (0 < n) = true := decide_eq_true (by omega)
  have np3 : 0 < n := by omega
  have HPP := Lib.hid hp
  have HRR := Lib.hid hr
  have HM := Lib.hid hm
  have HN := Lib.hid hn
  have HEN := Lib.hid EN
  clear hm hn hp hr hok EN HEnds hlo hno
  go_enter Try.func13, Try.ntmps13
  go_wp2_with fail
  refine KM.out.mono ?_
  rintro e w1 ⟨rfl, hb1⟩
  have HB1 := Lib.hid hb1
  have HR1 := Lib.hid (HRR.out.kept hb1)
  have HP1 := Lib.hid (HPP.out.kept hb1)
  clear hb1
  go_wp2_with fail
  refine (KE.out _ HR1.out).mono ?_
  rintro e w2 ⟨rfl, rfl⟩
  go_wp2_with fail
  go_loopg [10, 11] m (fun g b i wr => ∃ k : Nat, k ≤ m ∧ g = m - k ∧ i = .int .i64 k ∧ b = .bool (decide (j < k)) ∧ wr = w1)
  case atStart => exact ⟨0, by omega, by omega, rfl, bvalf (by simp), rfl⟩
  case round =>
    obtain ⟨k, hk, rfl, rfl, rfl, rfl⟩ := hrel
    by_cases h : k < m
    · obtain ⟨b, off, rfl, hlt, hc⟩ := rdI_row HP1.out (by have := HM.out; omega)
      have ck := hc k (by have := HM.out; omega)
      by_cases hkj : k < j
      · rw [show decide (j < k) = false from decide_eq_false (by omega)]
        have E := Lib.hid (show decide (j < k + 1) = false from decide_eq_false (by omega))
        obtain ⟨o1, o2⟩ := OK.out k hkj
        obtain ⟨p, hp⟩ : ∃ p, zat ps k = p := ⟨_, rfl⟩
        rw [hp] at ck o1 o2
        clear hc hp
        go_wp2_with fail
        go_roundg (m - (k + 1))
        case measure => omega
        case rel => exact ⟨k + 1, by omega, rfl, by go_num, bvalf (by rw [E.out]; simp; omega), rfl⟩
      · by_cases hkj2 : k = j
        · rw [show decide (j < k) = false from decide_eq_false (by omega)]
          have E := Lib.hid (show decide (j < k + 1) = true from decide_eq_true (by omega))
          have no := NO.out
          rw [← hkj2] at no
          obtain ⟨p, hp⟩ : ∃ p, zat ps k = p := ⟨_, rfl⟩
          rw [hp] at ck no
          clear hc hp hkj2
          by_cases p1 : p < 1
          · clear no
            go_wp2_with fail
            go_roundg (m - (k + 1))
            case measure => omega
            case rel => exact ⟨k + 1, by omega, rfl, by go_num, bvalf (by rw [E.out] <;> simp <;> try omega), rfl⟩
          · by_cases p2 : 100 < p
            · clear no
              go_wp2_with fail
              go_roundg (m - (k + 1))
              case measure => omega
              case rel => exact ⟨k + 1, by omega, rfl, by go_num, bvalf (by rw [E.out] <;> simp <;> try omega), rfl⟩
            · exfalso; omega
        · rw [show decide (j < k) = true from decide_eq_true (by omega)]
          have E := Lib.hid (show decide (j < k + 1) = true from decide_eq_true (by omega))
          clear hc
          go_wp2_with fail
          go_roundg (m - (k + 1))
          case measure => omega
          case rel => exact ⟨k + 1, by omega, rfl, by go_num, bvalf (by rw [E.out]), rfl⟩
    · obtain rfl : k = m := by omega
      rw [show decide (j < k) = true from decide_eq_true (by omega)]
      clear hk h
      rename World => w1
      go_wp2_with fail
      refine (KL.out _ HR1.out).mono ?_
      rintro e w2 ⟨rfl, rfl⟩
      go_wp2_with fail
      refine (KH.out _ HR1.out).mono ?_
      rintro e w2 ⟨rfl, rfl⟩
      go_wp2_with (go_at_call 56; refine (rkalive _).mono ?_; rintro e w9 ⟨rfl, hb9⟩)
      go_ret
      exact ⟨rfl, HB1.out.trans (hb9.mono HB1.out.size)⟩
set_option maxRecDepth 100000 in
set_option maxHeartbeats 4000000 in
theorem walk_bad0 (P A : Option Addr) (d c m : Nat) (ps : List Int) (w : World) (hm : ps.length = m) (hp : RdI w .i64 P ps) (hr : RdI w .i64 A []) (m1 : m ≤ 50) (m0 : 1 ≤ m) :
    Calls Try.prog 13 #[.slice P m d, .slice A 0 c] w fun e w' => e = .returned (.bool true) ∧ Below w.heap.size w w' := by
  obtain ⟨j, hj0⟩ : ∃ j, j = 0 := ⟨0, rfl⟩
  have hj : j < m := by omega
  have hok : ∀ i, i < j → 1 ≤ zat ps i ∧ zat ps i ≤ 100 ∧ 1 ≤ 0 := fun i hi => absurd hi (by omega)
  have KM := Lib.hid (rmany_no P A d c m 0 j ps [] w hm rfl hp hr (by omega) (by omega) hj hok (by omega))
  have OK := Lib.hid hok
  have NO : Hid (zat ps j < 1 ∨ 100 < zat ps j ∨ True) := Lib.hid (Or.inr (Or.inr trivial))
  have KE := Lib.hid (fun w => rends_no A c w)
  have HPP := Lib.hid hp
  have HM := Lib.hid hm
  clear hm hp hr hok hj0
  go_enter Try.func13, Try.ntmps13
  go_wp2_with fail
  refine KM.out.mono ?_
  rintro e w1 ⟨rfl, hb1⟩
  have HB1 := Lib.hid hb1
  have HP1 := Lib.hid (HPP.out.kept hb1)
  clear hb1
  go_wp2_with fail
  refine (KE.out _).mono ?_
  rintro e w2 ⟨rfl, rfl⟩
  go_wp2_with fail
  go_loopg [10, 11] m (fun g b i wr => ∃ k : Nat, k ≤ m ∧ g = m - k ∧ i = .int .i64 k ∧ b = .bool (decide (j < k)) ∧ wr = w1)
  case atStart => exact ⟨0, by omega, by omega, rfl, bvalf (by simp), rfl⟩
  case round =>
    obtain ⟨k, hk, rfl, rfl, rfl, rfl⟩ := hrel
    by_cases h : k < m
    · obtain ⟨b, off, rfl, hlt, hc⟩ := rdI_row HP1.out (by have := HM.out; omega)
      have ck := hc k (by have := HM.out; omega)
      by_cases hkj : k < j
      · rw [show decide (j < k) = false from decide_eq_false (by omega)]
        have E := Lib.hid (show decide (j < k + 1) = false from decide_eq_false (by omega))
        obtain ⟨o1, o2, o3⟩ := OK.out k hkj
        obtain ⟨p, hp⟩ : ∃ p, zat ps k = p := ⟨_, rfl⟩
        rw [hp] at ck o1 o2
        clear hc hp
        go_wp2_with fail
        go_roundg (m - (k + 1))
        case measure => omega
        case rel => exact ⟨k + 1, by omega, rfl, by go_num, bvalf (by rw [E.out]; simp; omega), rfl⟩
      · by_cases hkj2 : k = j
        · rw [show decide (j < k) = false from decide_eq_false (by omega)]
          have E := Lib.hid (show decide (j < k + 1) = true from decide_eq_true (by omega))
          have no := NO.out
          rw [← hkj2] at no
          obtain ⟨p, hp⟩ : ∃ p, zat ps k = p := ⟨_, rfl⟩
          rw [hp] at ck no
          clear hc hp hkj2
          by_cases p1 : p < 1
          · clear no
            go_wp2_with fail
            go_roundg (m - (k + 1))
            case measure => omega
            case rel => exact ⟨k + 1, by omega, rfl, by go_num, bvalf (by rw [E.out] <;> simp <;> try omega), rfl⟩
          · by_cases p2 : 100 < p
            · clear no
              go_wp2_with fail
              go_roundg (m - (k + 1))
              case measure => omega
              case rel => exact ⟨k + 1, by omega, rfl, by go_num, bvalf (by rw [E.out] <;> simp <;> try omega), rfl⟩
            · clear no
              go_wp2_with fail
              go_roundg (m - (k + 1))
              case measure => omega
              case rel => exact ⟨k + 1, by omega, rfl, by go_num, bvalf (by rw [E.out] <;> simp <;> try omega), rfl⟩
        · rw [show decide (j < k) = true from decide_eq_true (by omega)]
          have E := Lib.hid (show decide (j < k + 1) = true from decide_eq_true (by omega))
          clear hc
          go_wp2_with fail
          go_roundg (m - (k + 1))
          case measure => omega
          case rel => exact ⟨k + 1, by omega, rfl, by go_num, bvalf (by rw [E.out]), rfl⟩
    · obtain rfl : k = m := by omega
      rw [show decide (j < k) = true from decide_eq_true (by omega)]
      clear hk h
      rename World => w1
      go_wp2_with (go_at_call 56; refine (rkalive _).mono ?_; rintro e w9 ⟨rfl, hb9⟩)
      go_ret
      exact ⟨rfl, HB1.out.trans (hb9.mono HB1.out.size)⟩
set_option maxRecDepth 100000 in
set_option maxHeartbeats 4000000 in
theorem walk_empty (P A : Option Addr) (d c : Nat) (w : World) (hp : RdI w .i64 P []) (hr : RdI w .i64 A []) :
    Calls Try.prog 13 #[.slice P 0 d, .slice A 0 c] w fun e w' => e = .returned (.bool true) ∧ Below w.heap.size w w' := by
  have KM := Lib.hid (rmany_ok P A d c 0 0 [] [] w rfl rfl hp hr (by omega) (by omega) (fun i hi => absurd hi (by omega)))
  have KE := Lib.hid (fun w => rends_no A c w)
  clear hp hr
  go_enter Try.func13, Try.ntmps13
  go_wp2_with fail
  refine KM.out.mono ?_
  rintro e w1 ⟨Z, cz, rfl, hZ, hb1⟩
  have HB1 := Lib.hid hb1
  clear hb1 hZ
  go_wp2_with fail
  refine (KE.out _).mono ?_
  rintro e w2 ⟨rfl, rfl⟩
  go_wp2_with fail
  go_loopg [10, 11] 0 (fun g b i wr => g = 0 ∧ i = .int .i64 0 ∧ b = .bool false ∧ wr = w1)
  case atStart => exact ⟨rfl, rfl, rfl, rfl⟩
  case round =>
    obtain ⟨rfl, rfl, rfl, rfl⟩ := hrel
    rename World => w1
    go_wp2_with fail
    go_loopg [12] 0 (fun g i wr => g = 0 ∧ i = .int .i64 0 ∧ wr = w1)
    case atStart => exact ⟨rfl, rfl, rfl⟩
    case round =>
      obtain ⟨rfl, rfl, rfl⟩ := hrel
      go_wp2_with (go_at_call 56; refine (rkalive _).mono ?_; rintro e w9 ⟨rfl, hb9⟩)
      go_ret
      exact ⟨rfl, HB1.out.trans (hb9.mono HB1.out.size)⟩
theorem first_bad {ps : List Int} {m : Nat} (h : ¬ ∀ i, i < m → 1 ≤ zat ps i ∧ zat ps i ≤ 100) : ∃ j, j < m ∧ (∀ i, i < j → 1 ≤ zat ps i ∧ zat ps i ≤ 100) ∧ (zat ps j < 1 ∨ 100 < zat ps j) := by
  induction m with
  | zero => exact absurd (fun i hi => absurd hi (by omega)) h
  | succ m ih =>
    by_cases c : ∀ i, i < m → 1 ≤ zat ps i ∧ zat ps i ≤ 100
    · refine ⟨m, by omega, c, ?_⟩
      by_cases c1 : zat ps m < 1
      · exact Or.inl c1
      · refine Or.inr (Int.not_le.1 fun c2 => h fun i hi => ?_)
        by_cases e : i = m
        · rw [e]; omega
        · exact c i (by omega)
    · obtain ⟨j, h1, h2⟩ := ih c
      exact ⟨j, by omega, h2⟩
set_option maxRecDepth 100000 in
theorem walk {P A : Option Addr} {d c : Nat} {ps zs : List Int} {w : World} (hl0 : ps.length ≤ d) (hm0 : d ≤ maxLen) (hp : RdI w .i64 P ps) (hl : zs.length ≤ c) (hm : c ≤ maxLen) (hr : RdI w .i64 A zs) :
    Calls Try.prog 13 #[.slice P ps.length d, .slice A zs.length c] w fun e w' => e = .returned (.bool true) ∧ Below w.heap.size w w' := by
  obtain ⟨m, em⟩ : ∃ m, ps.length = m := ⟨_, rfl⟩
  obtain ⟨n, en⟩ : ∃ n, zs.length = n := ⟨_, rfl⟩
  rw [em, en]
  unfold maxLen at hm hm0
  by_cases h1 : 50 < m
  · clear hp hr em en
    go_enter Try.func13, Try.ntmps13
    go_wp2_with fail
    go_ret
    exact ⟨rfl, Below.refl _ _⟩
  · by_cases h2 : 100 < n
    · clear hp hr em en
      go_enter Try.func13, Try.ntmps13
      go_wp2_with fail
      go_ret
      exact ⟨rfl, Below.refl _ _⟩
    · by_cases hn : 1 ≤ n
      · obtain ⟨lo, hi, EN, HE⟩ := rends_ok A c n zs w en hr hn (by omega)
        by_cases hok : ∀ i, i < m → 1 ≤ zat ps i ∧ zat ps i ≤ 100
        · by_cases hlo : -9223372036854775808 < lo
          · exact walk_ok_norm P A d c m n ps zs w em en hp hr (by omega) (by omega) hn hok lo hi EN HE hlo
          · exact walk_ok_min P A d c m n ps zs w em en hp hr (by omega) (by omega) hn hok lo hi EN HE (by
              obtain ⟨i, hi, e⟩ := EN.m
              obtain ⟨_, _, _, _, hw⟩ := hr i (by omega)
              have := bounds_i64 hw
              rw [e] at this; omega)
        · obtain ⟨j, h3, h4, h5⟩ := first_bad hok
          by_cases hlo : -9223372036854775808 < lo
          · exact walk_bad_norm P A d c m n ps zs w em en hp hr (by omega) (by omega) hn j h3 h4 h5 lo hi EN HE hlo
          · exact walk_bad_min P A d c m n ps zs w em en hp hr (by omega) (by omega) hn j h3 h4 h5 lo hi EN HE (by
              obtain ⟨i, hi, e⟩ := EN.m
              obtain ⟨_, _, _, _, hw⟩ := hr i (by omega)
              have := bounds_i64 hw
              rw [e] at this; omega)
      · have hz : zs = [] := List.eq_nil_of_length_eq_zero (by omega)
        subst hz
        obtain rfl : n = 0 := by omega
        by_cases hm1 : 1 ≤ m
        · exact walk_bad0 P A d c m ps w em hp hr (by omega) hm1
        · have hz : ps = [] := List.eq_nil_of_length_eq_zero (by omega)
          subst hz
          obtain rfl : m = 0 := by omega
          exact walk_empty P A d c w hp hr

end Go.Proofs.Ytcofafiacpecnaa.rankMany
