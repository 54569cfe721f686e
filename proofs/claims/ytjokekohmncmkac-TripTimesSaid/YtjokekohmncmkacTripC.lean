/- Contracts of trip.Aboard, of the document's Waits and Aboard, of Great. -/
import Derived.Test.YtjokekohmncmkacRows
import Derived.Test.YtjokekohmncmkacRowKit
import Derived.Test.YtjokekohmncmkacRowS
import Derived.Test.YtjokekohmncmkacRowZ
import Derived.Test.YtjokekohmncmkacSlicesEq
import Derived.Test.YtjokekohmncmkacRowL
import Derived.Test.YtjokekohmncmkacTripMath
import Derived.Test.YtjokekohmncmkacTripA
import Derived.Test.YtjokekohmncmkacTripB
import Derived.WalkKit
import Derived.IntWalk
import Derived.Lib.Hide
import Derived.Lib.SmallJoins
import Derived.WalkSpells
import Derived.WalkLawsBesides
import Derived.Deep.QuietTactic
import Derived.Deep.RegionHeld3
import Derived.Deep.AppendLies
import Derived.BigQuiet
import Derived.Below
import Derived.OwnWalk
namespace Go.Proofs.Ytjokekohmncmkac
open Go.RowKit
set_option linter.unusedSimpArgs false
set_option linter.unusedVariables false
set_option maxHeartbeats 2000000 in
theorem rwaits_any (A : Option Addr) (c n : Nat) (z : Nat → Nat → Int) (w : World) (hr : RdZ w 7 A n z) (hn : n ≤ 1000) (hz : TBd z n) :
    Calls Try.prog 41 #[.slice A n c, .bool true] w (MadeL (doneV z 5 1 n) w) := by
  have HZ := Lib.hid hz
  clear hz
  obtain ⟨i0, hi, hz0, hz1, hz2⟩ := info_parts tinfo
  go_enter Try.func41, Try.ntmps41
  go_wp2_with fail
  go_loopw [5, 6] (fun v i wr => ∃ k : Nat, k ≤ n ∧ i = .int .i64 k ∧ OwnD wr w.heap.size z 5 1 k v ∧ Below w.heap.size w wr) (fun _ i _ => n - (intOf i).toNat)
  case atStart => exact ⟨0, by omega, rfl, ownD_zero _ _ _ _ _, Below.refl _ _⟩
  case round =>
    obtain ⟨k, hk, rfl, hown, hb⟩ := hrel
    by_cases h : k < n
    · obtain ⟨b, off, rfl, hlt, _⟩ := rdZ_row hr (by omega) (by omega)
      obtain ⟨b', off', e1, _, hc⟩ := rdZ_row (hr.kept hb) (by omega) (by omega)
      cases e1
      have c0 : wr.cell? ⟨b, off + k * 7, none⟩ = _ := hc k 0 h (by omega)
      have c1 := hc k 1 h (by omega)
      have c2 := hc k 2 h (by omega)
      have c3 := hc k 3 h (by omega)
      have c4 := hc k 4 h (by omega)
      have c5 := hc k 5 h (by omega)
      have c6 := hc k 6 h (by omega)
      clear hc
      have T := fun w => rtat_any (z k 0) (z k 1) (z k 2) (z k 3) (z k 4) (z k 5) (z k 6) w
      by_cases h6 : 0 ≤ z k 6
      · rw [phase_done h6] at T
        have HT := Lib.hid T
        obtain ⟨z1, z5, z6⟩ := HZ.out k h
        obtain ⟨d, hd⟩ : ∃ d, z k 5 - z k 1 = d := ⟨_, rfl⟩
        have WD : IntKind.i64.wrap (z k 5 - z k 1) = d := by rw [hd]; exact IntWalk.i64_in _ (by omega)
        obtain ⟨L, hL⟩ : ∃ L, doneV z 5 1 k = L := ⟨_, rfl⟩
        have hLl : L.length ≤ k := by rw [← hL]; exact done_len z 5 1 k
        have hown1 : wr.ownsRow w.heap.size 3 1 u5 L.length (L.map (Value.int .i64)) := by rw [← hL]; exact hown
        obtain ⟨g, cap, hv⟩ := slice_of_own hown1
        subst hv
        have ag : (Value.slice g L.length cap).ownBlock ≠ some b := fun e => by have := ownR_ge hown1 e; omega
        have HD := Lib.hid hd
        have HL := Lib.hid hL
        clear T hd hL hown z1 z5 z6
        go_wp2_with fail
        refine (HT.out _).mono ?_
        rintro e w1 ⟨rfl, hb1⟩
        have c0 := keepc hb1 c0
        have c1 := keepc hb1 c1
        have c2 := keepc hb1 c2
        have c3 := keepc hb1 c3
        have c4 := keepc hb1 c4
        have c5 := keepc hb1 c5
        have c6 := keepc hb1 c6
        have own1 := ownR_below hown1 hb1
        have q1 := hb.trans (Joins.below_le hb1 hb.size)
        have hs1 : w.heap.size ≤ w1.heap.size := q1.size
        have k0 : (0 : Int) ≤ (k : Int) := Int.natCast_nonneg _
        have k1 : (k : Int) < (n : Int) := by omega
        clear hown1 hb1
        go_wp2_with fail
        go_region_held3 (fun W => W.cell? ⟨b, off + k * 7 + 5, none⟩ = some (.int .i64 (z k 5)) ∧ W.cell? ⟨b, off + k * 7 + 1, none⟩ = some (.int .i64 (z k 1)))
          (first
            | go_keep
            | (go_split_ands
               refine ⟨?_, ?_⟩
               · (rw [hgrow.cell_far _ (by simp; omega) (Ne.symm ag)]; assumption)
               · (rw [hgrow.cell_far _ (by simp; omega) (Ne.symm ag)]; assumption)))
          ((refine step_append_lies _ (by rfl) _ _ _ (by rfl) w.heap.size 3 i0 _ 1 8 Try.underlying77 hi hz0 hz1 hz2 rfl (by omega) (.slice g L.length cap) L.length (L.map (Value.int .i64)) (by rfl) ((own1.alloc _).drew) ⟨w1.heap.size, 0, none⟩ 1 1 [.int .i64 d] (by rfl) (by rfl) (World.news_of_block (cs := #[.int .i64 d]) (t := 3) (fr := (0, 0)) (heap_alloc_new w1 _)) (by simp [Value.oneCell']) (by omega) (by unfold maxLen; omega) (by omega) (by simp; omega) (w1.heap.size + 1) (by simp) ?_; intro gg cap2 w3 hown' hgrow hat hlt2))
        have q3 : Below w.heap.size w w3 := by
          refine ((q1.alloc q1.size (.cells #[.int .i64 d] 3)).drew).grown hgrow (by simp; omega) (fun g hg => ?_)
          first | exact ownR_ge own1 hg | exact ownR_ge own1 hg.symm
        have hown2 : OwnD w3 w.heap.size z 5 1 (k + 1) (.slice (some ⟨gg, 0, none⟩) (L.length + 1) cap2) := ownD_yes HL.out h6 HD.out hown'
        clear hown' hgrow own1 WD
        go_wp2_with fail
        go_roundw
        case rel => exact ⟨k + 1, by omega, by go_num, hown2, q3⟩
        case measure => simp [intOf]; omega
      · obtain ⟨p, hp⟩ : ∃ p, phaseV (z k 5) (z k 6) = p := ⟨_, rfl⟩
        have hp1 : ¬ p = 2 := by rw [← hp]; unfold phaseV; rw [if_neg h6]; split <;> omega
        have hp2 : (p == 2) = false := by rw [beq_eq_false_iff_ne]; exact hp1
        have hp3 : (p != 2) = true := by rw [bne_iff_ne]; exact hp1
        rw [hp] at T
        have HT := Lib.hid T
        have hown1 := hown
        clear T hp hown hp1
        go_wp2_with fail
        refine (HT.out _).mono ?_
        rintro e w1 ⟨rfl, hb1⟩
        have own1 : OwnD w1 w.heap.size z 5 1 k u5 := ownR_below hown1 hb1
        have q1 := hb.trans (Joins.below_le hb1 hb.size)
        clear hown1 hb1
        go_wp2_with fail
        go_roundw
        case rel => exact ⟨k + 1, by omega, by go_num, ownD_no (by omega) own1, q1⟩
        case measure => simp [intOf]; omega
    · obtain rfl : k = n := by omega
      go_wp2_with fail
      go_ret
      exact ⟨_, rfl, hown, hb⟩
set_option maxHeartbeats 2000000 in
theorem rtransits_any (A : Option Addr) (c n : Nat) (z : Nat → Nat → Int) (w : World) (hr : RdZ w 7 A n z) (hn : n ≤ 1000) (hz : TBd z n) :
    Calls Try.prog 41 #[.slice A n c, .bool false] w (MadeL (doneV z 6 5 n) w) := by
  have HZ := Lib.hid hz
  clear hz
  obtain ⟨i0, hi, hz0, hz1, hz2⟩ := info_parts tinfo
  go_enter Try.func41, Try.ntmps41
  go_wp2_with fail
  go_loopw [5, 6] (fun v i wr => ∃ k : Nat, k ≤ n ∧ i = .int .i64 k ∧ OwnD wr w.heap.size z 6 5 k v ∧ Below w.heap.size w wr) (fun _ i _ => n - (intOf i).toNat)
  case atStart => exact ⟨0, by omega, rfl, ownD_zero _ _ _ _ _, Below.refl _ _⟩
  case round =>
    obtain ⟨k, hk, rfl, hown, hb⟩ := hrel
    by_cases h : k < n
    · obtain ⟨b, off, rfl, hlt, _⟩ := rdZ_row hr (by omega) (by omega)
      obtain ⟨b', off', e1, _, hc⟩ := rdZ_row (hr.kept hb) (by omega) (by omega)
      cases e1
      have c0 : wr.cell? ⟨b, off + k * 7, none⟩ = _ := hc k 0 h (by omega)
      have c1 := hc k 1 h (by omega)
      have c2 := hc k 2 h (by omega)
      have c3 := hc k 3 h (by omega)
      have c4 := hc k 4 h (by omega)
      have c5 := hc k 5 h (by omega)
      have c6 := hc k 6 h (by omega)
      clear hc
      have T := fun w => rtat_any (z k 0) (z k 1) (z k 2) (z k 3) (z k 4) (z k 5) (z k 6) w
      by_cases h6 : 0 ≤ z k 6
      · rw [phase_done h6] at T
        have HT := Lib.hid T
        obtain ⟨z1, z5, z6⟩ := HZ.out k h
        obtain ⟨d, hd⟩ : ∃ d, z k 6 - z k 5 = d := ⟨_, rfl⟩
        have WD : IntKind.i64.wrap (z k 6 - z k 5) = d := by rw [hd]; exact IntWalk.i64_in _ (by omega)
        obtain ⟨L, hL⟩ : ∃ L, doneV z 6 5 k = L := ⟨_, rfl⟩
        have hLl : L.length ≤ k := by rw [← hL]; exact done_len z 6 5 k
        have hown1 : wr.ownsRow w.heap.size 3 1 u5 L.length (L.map (Value.int .i64)) := by rw [← hL]; exact hown
        obtain ⟨g, cap, hv⟩ := slice_of_own hown1
        subst hv
        have ag : (Value.slice g L.length cap).ownBlock ≠ some b := fun e => by have := ownR_ge hown1 e; omega
        have HD := Lib.hid hd
        have HL := Lib.hid hL
        clear T hd hL hown z1 z5 z6
        go_wp2_with fail
        refine (HT.out _).mono ?_
        rintro e w1 ⟨rfl, hb1⟩
        have c0 := keepc hb1 c0
        have c1 := keepc hb1 c1
        have c2 := keepc hb1 c2
        have c3 := keepc hb1 c3
        have c4 := keepc hb1 c4
        have c5 := keepc hb1 c5
        have c6 := keepc hb1 c6
        have own1 := ownR_below hown1 hb1
        have q1 := hb.trans (Joins.below_le hb1 hb.size)
        have hs1 : w.heap.size ≤ w1.heap.size := q1.size
        have k0 : (0 : Int) ≤ (k : Int) := Int.natCast_nonneg _
        have k1 : (k : Int) < (n : Int) := by omega
        clear hown1 hb1
        go_wp2_with fail
        go_region_held3 (fun W => W.cell? ⟨b, off + k * 7 + 6, none⟩ = some (.int .i64 (z k 6)) ∧ W.cell? ⟨b, off + k * 7 + 5, none⟩ = some (.int .i64 (z k 5)))
          (first
            | go_keep
            | (go_split_ands
               refine ⟨?_, ?_⟩
               · (rw [hgrow.cell_far _ (by simp; omega) (Ne.symm ag)]; assumption)
               · (rw [hgrow.cell_far _ (by simp; omega) (Ne.symm ag)]; assumption)))
          ((refine step_append_lies _ (by rfl) _ _ _ (by rfl) w.heap.size 3 i0 _ 1 8 Try.underlying77 hi hz0 hz1 hz2 rfl (by omega) (.slice g L.length cap) L.length (L.map (Value.int .i64)) (by rfl) ((own1.alloc _).drew) ⟨w1.heap.size, 0, none⟩ 1 1 [.int .i64 d] (by rfl) (by rfl) (World.news_of_block (cs := #[.int .i64 d]) (t := 3) (fr := (0, 0)) (heap_alloc_new w1 _)) (by simp [Value.oneCell']) (by omega) (by unfold maxLen; omega) (by omega) (by simp; omega) (w1.heap.size + 1) (by simp) ?_; intro gg cap2 w3 hown' hgrow hat hlt2))
        have q3 : Below w.heap.size w w3 := by
          refine ((q1.alloc q1.size (.cells #[.int .i64 d] 3)).drew).grown hgrow (by simp; omega) (fun g hg => ?_)
          first | exact ownR_ge own1 hg | exact ownR_ge own1 hg.symm
        have hown2 : OwnD w3 w.heap.size z 6 5 (k + 1) (.slice (some ⟨gg, 0, none⟩) (L.length + 1) cap2) := ownD_yes HL.out h6 HD.out hown'
        clear hown' hgrow own1 WD
        go_wp2_with fail
        go_roundw
        case rel => exact ⟨k + 1, by omega, by go_num, hown2, q3⟩
        case measure => simp [intOf]; omega
      · obtain ⟨p, hp⟩ : ∃ p, phaseV (z k 5) (z k 6) = p := ⟨_, rfl⟩
        have hp1 : ¬ p = 2 := by rw [← hp]; unfold phaseV; rw [if_neg h6]; split <;> omega
        have hp2 : (p == 2) = false := by rw [beq_eq_false_iff_ne]; exact hp1
        have hp3 : (p != 2) = true := by rw [bne_iff_ne]; exact hp1
        rw [hp] at T
        have HT := Lib.hid T
        have hown1 := hown
        clear T hp hown hp1
        go_wp2_with fail
        refine (HT.out _).mono ?_
        rintro e w1 ⟨rfl, hb1⟩
        have own1 : OwnD w1 w.heap.size z 6 5 k u5 := ownR_below hown1 hb1
        have q1 := hb.trans (Joins.below_le hb1 hb.size)
        clear hown1 hb1
        go_wp2_with fail
        go_roundw
        case rel => exact ⟨k + 1, by omega, by go_num, ownD_no (by omega) own1, q1⟩
        case measure => simp [intOf]; omega
    · obtain rfl : k = n := by omega
      go_wp2_with fail
      go_ret
      exact ⟨_, rfl, hown, hb⟩
set_option maxHeartbeats 2000000 in
theorem aboard_any (A : Option Addr) (c n : Nat) (u : Int) (z : Nat → Nat → Int) (w : World) (hr : RdZ w 7 A n z) (hn : n ≤ 1000) (hz : TBd z n) (hu0 : -1 ≤ u) (hu1 : u ≤ 1073741824) :
    Calls Try.prog 43 #[.slice A n c, .int .i64 u] w fun e w' => e = .returned (.int .i64 (aboardV z u n)) ∧ Below w.heap.size w w' := by
  have HZ := Lib.hid hz
  have AB := Lib.hid (fun k => aboard_bd z hu1 k)
  have S0 := Lib.hid (aboard_zero z u)
  clear hz
  go_enter Try.func43, Try.ntmps43
  go_wp2_with fail
  go_loopw [5, 11] (fun s i wr => ∃ k : Nat, k ≤ n ∧ i = .int .i64 k ∧ s = .int .i64 (aboardV z u k) ∧ Below w.heap.size w wr) (fun _ i _ => n - (intOf i).toNat)
  case atStart => exact ⟨0, by omega, rfl, rfl, Below.refl _ _⟩
  case round =>
    obtain ⟨k, hk, rfl, rfl, hb⟩ := hrel
    obtain ⟨s0, s1⟩ := AB.out k
    have SS := aboard_succ z u k
    obtain ⟨s, hs⟩ : ∃ s, aboardV z u k = s := ⟨_, rfl⟩
    rw [hs] at s0 s1 SS ⊢
    have HS := Lib.hid hs
    have HSS := Lib.hid SS
    clear hs SS
    have s2 : s ≤ 1099511627776 := by omega
    clear s1
    by_cases h : k < n
    · obtain ⟨b, off, rfl, hlt, hc⟩ := rdZ_row (hr.kept hb) (by omega) (by omega)
      have c0 : wr.cell? ⟨b, off + k * 7, none⟩ = _ := hc k 0 h (by omega)
      have c1 := hc k 1 h (by omega)
      have c2 := hc k 2 h (by omega)
      have c3 := hc k 3 h (by omega)
      have c4 := hc k 4 h (by omega)
      have c5 := hc k 5 h (by omega)
      have c6 := hc k 6 h (by omega)
      clear hc
      have B1 := Lib.hid (hb.alloc hb.size (.cells #[.int .i64 (z k 0), .int .i64 (z k 1), .int .i64 (z k 2), .int .i64 (z k 3), .int .i64 (z k 4), .int .i64 (z k 5), .int .i64 (z k 6)] 68))
      obtain ⟨z1, ⟨z5, z5'⟩, ⟨z6, z6'⟩⟩ := HZ.out k h
      clear z1
      by_cases c1' : z k 5 < 0
      · have E := Lib.hid (show rodeV u (z k 5) (z k 6) = 0 by unfold rodeV; rw [if_pos (.inl c1')])
        go_wp2_with fail
        all_goals
          go_roundw
          case rel => exact ⟨k + 1, by omega, by go_num, tvint (by rw [HSS.out, E.out] <;> omega), B1.out⟩
          case measure => simp [intOf]; omega
      · by_cases c2' : u ≤ z k 5
        · have E := Lib.hid (show rodeV u (z k 5) (z k 6) = 0 by unfold rodeV; rw [if_pos (.inr c2')])
          go_wp2_with fail
          all_goals
            go_roundw
            case rel => exact ⟨k + 1, by omega, by go_num, tvint (by rw [HSS.out, E.out] <;> omega), B1.out⟩
            case measure => simp [intOf]; omega
        · by_cases c3' : 0 ≤ z k 6
          · have E := Lib.hid (show rodeV u (z k 5) (z k 6) = max 0 (min u (z k 6) - z k 5) by unfold rodeV; rw [if_neg (by omega), if_pos c3'])
            go_wp2_with fail
            all_goals
              go_roundw
              case rel => exact ⟨k + 1, by omega, by go_num, tvint (by rw [HSS.out, E.out] <;> omega), B1.out⟩
              case measure => simp [intOf]; omega
          · have E := Lib.hid (show rodeV u (z k 5) (z k 6) = max 0 (u - z k 5) by unfold rodeV; rw [if_neg (by omega), if_neg c3'])
            go_wp2_with fail
            all_goals
              go_roundw
              case rel => exact ⟨k + 1, by omega, by go_num, tvint (by rw [HSS.out, E.out] <;> omega), B1.out⟩
              case measure => simp [intOf]; omega
    · obtain rfl : k = n := by omega
      go_wp2_with fail
      go_ret
      exact ⟨tret (by rw [HS.out]), hb⟩
set_option maxHeartbeats 2000000 in
theorem raboard_any (A : Option Addr) (c n : Nat) (u : Int) (z : Nat → Nat → Int) (w : World) (hr : RdZ w 7 A n z) (hn : n ≤ 1000) (hz : TBd z n) (hu0 : -1 ≤ u) (hu1 : u ≤ 1073741824) :
    Calls Try.prog 44 #[.slice A n c, .int .i64 u] w fun e w' => e = .returned (.int .i64 (aboardV z u n)) ∧ Below w.heap.size w w' := by
  have HZ := Lib.hid hz
  have AB := Lib.hid (fun k => aboard_bd z hu1 k)
  have S0 := Lib.hid (aboard_zero z u)
  clear hz
  go_enter Try.func44, Try.ntmps44
  go_wp2_with fail
  go_loopw [5, 6] (fun s i wr => ∃ k : Nat, k ≤ n ∧ i = .int .i64 k ∧ s = .int .i64 (aboardV z u k) ∧ Below w.heap.size w wr) (fun _ i _ => n - (intOf i).toNat)
  case atStart => exact ⟨0, by omega, rfl, rfl, Below.refl _ _⟩
  case round =>
    obtain ⟨k, hk, rfl, rfl, hb⟩ := hrel
    obtain ⟨s0, s1⟩ := AB.out k
    have SS := aboard_succ z u k
    obtain ⟨s, hs⟩ : ∃ s, aboardV z u k = s := ⟨_, rfl⟩
    rw [hs] at s0 s1 SS ⊢
    have HS := Lib.hid hs
    have HSS := Lib.hid SS
    clear hs SS
    have s2 : s ≤ 1099511627776 := by omega
    clear s1
    by_cases h : k < n
    · obtain ⟨b, off, rfl, hlt, hc⟩ := rdZ_row (hr.kept hb) (by omega) (by omega)
      have c0 : wr.cell? ⟨b, off + k * 7, none⟩ = _ := hc k 0 h (by omega)
      have c1 := hc k 1 h (by omega)
      have c2 := hc k 2 h (by omega)
      have c3 := hc k 3 h (by omega)
      have c4 := hc k 4 h (by omega)
      have c5 := hc k 5 h (by omega)
      have c6 := hc k 6 h (by omega)
      clear hc
      have B1 := Lib.hid (hb.alloc hb.size (.cells #[.int .i64 (z k 0), .int .i64 (z k 1), .int .i64 (z k 2), .int .i64 (z k 3), .int .i64 (z k 4), .int .i64 (z k 5), .int .i64 (z k 6)] 68))
      obtain ⟨z1, ⟨z5, z5'⟩, ⟨z6, z6'⟩⟩ := HZ.out k h
      clear z1
      have E := Lib.hid (show rodeV u (z k 5) (z k 6) = if z k 5 < 0 ∨ u ≤ z k 5 then 0 else max 0 ((if 0 ≤ z k 6 then min u (z k 6) else u) - z k 5) from rfl)
      by_cases c3' : 0 ≤ z k 6
      · by_cases c4' : z k 6 < u
        · skip
          by_cases d0 : z k 5 < 0
          · have F := Lib.hid (show rodeV u (z k 5) (z k 6) = 0 from (by have := E.out; rw [this]; split <;> (try split) <;> omega))
            go_wp2_with fail
            all_goals
              go_roundw
              case rel => exact ⟨k + 1, by omega, by go_num, tvint (by rw [HSS.out, F.out] <;> omega), B1.out⟩
              case measure => simp [intOf]; omega
          · skip
            by_cases d1 : u ≤ z k 5
            · have F := Lib.hid (show rodeV u (z k 5) (z k 6) = 0 from (by have := E.out; rw [this]; split <;> (try split) <;> omega))
              go_wp2_with fail
              all_goals
                go_roundw
                case rel => exact ⟨k + 1, by omega, by go_num, tvint (by rw [HSS.out, F.out] <;> omega), B1.out⟩
                case measure => simp [intOf]; omega
            · skip
              by_cases d2 : z k 6 ≤ z k 5
              · have F := Lib.hid (show rodeV u (z k 5) (z k 6) = 0 from (by have := E.out; rw [this]; split <;> (try split) <;> omega))
                go_wp2_with fail
                all_goals
                  go_roundw
                  case rel => exact ⟨k + 1, by omega, by go_num, tvint (by rw [HSS.out, F.out] <;> omega), B1.out⟩
                  case measure => simp [intOf]; omega
              · skip
                have F := Lib.hid (show rodeV u (z k 5) (z k 6) = z k 6 - z k 5 from (by have := E.out; rw [this]; split <;> (try split) <;> omega))
                go_wp2_with fail
                all_goals
                  go_roundw
                  case rel => exact ⟨k + 1, by omega, by go_num, tvint (by rw [HSS.out, F.out] <;> omega), B1.out⟩
                  case measure => simp [intOf]; omega
        · skip
          by_cases d0 : z k 5 < 0
          · have F := Lib.hid (show rodeV u (z k 5) (z k 6) = 0 from (by have := E.out; rw [this]; split <;> (try split) <;> omega))
            go_wp2_with fail
            all_goals
              go_roundw
              case rel => exact ⟨k + 1, by omega, by go_num, tvint (by rw [HSS.out, F.out] <;> omega), B1.out⟩
              case measure => simp [intOf]; omega
          · skip
            by_cases d1 : u ≤ z k 5
            · have F := Lib.hid (show rodeV u (z k 5) (z k 6) = 0 from (by have := E.out; rw [this]; split <;> (try split) <;> omega))
              go_wp2_with fail
              all_goals
                go_roundw
                case rel => exact ⟨k + 1, by omega, by go_num, tvint (by rw [HSS.out, F.out] <;> omega), B1.out⟩
                case measure => simp [intOf]; omega
            · skip
              have F := Lib.hid (show rodeV u (z k 5) (z k 6) = u - z k 5 from (by have := E.out; rw [this]; split <;> (try split) <;> omega))
              go_wp2_with fail
              all_goals
                go_roundw
                case rel => exact ⟨k + 1, by omega, by go_num, tvint (by rw [HSS.out, F.out] <;> omega), B1.out⟩
                case measure => simp [intOf]; omega
      · skip
        by_cases d0 : z k 5 < 0
        · have F := Lib.hid (show rodeV u (z k 5) (z k 6) = 0 from (by have := E.out; rw [this]; split <;> (try split) <;> omega))
          go_wp2_with fail
          all_goals
            go_roundw
            case rel => exact ⟨k + 1, by omega, by go_num, tvint (by rw [HSS.out, F.out] <;> omega), B1.out⟩
            case measure => simp [intOf]; omega
        · skip
          by_cases d1 : u ≤ z k 5
          · have F := Lib.hid (show rodeV u (z k 5) (z k 6) = 0 from (by have := E.out; rw [this]; split <;> (try split) <;> omega))
            go_wp2_with fail
            all_goals
              go_roundw
              case rel => exact ⟨k + 1, by omega, by go_num, tvint (by rw [HSS.out, F.out] <;> omega), B1.out⟩
              case measure => simp [intOf]; omega
          · skip
            have F := Lib.hid (show rodeV u (z k 5) (z k 6) = u - z k 5 from (by have := E.out; rw [this]; split <;> (try split) <;> omega))
            go_wp2_with fail
            all_goals
              go_roundw
              case rel => exact ⟨k + 1, by omega, by go_num, tvint (by rw [HSS.out, F.out] <;> omega), B1.out⟩
              case measure => simp [intOf]; omega
    · obtain rfl : k = n := by omega
      go_wp2_with fail
      go_ret
      exact ⟨tret (by rw [HS.out]), hb⟩
def GreatR (z : Nat → Nat → Int) (n : Nat) (w : World) (e : Ending) (w' : World) : Prop := ∃ b, e = .returned (.bool b) ∧ Below w.heap.size w w' ∧ (b = false → n ≤ 100 ∧ TBd z n)
theorem tbd_succ {z : Nat → Nat → Int} {k : Nat} (h : TBd z k) (h' : (-1 ≤ z k 1 ∧ z k 1 ≤ 1073741824) ∧ (-1 ≤ z k 5 ∧ z k 5 ≤ 1073741824) ∧ (-1 ≤ z k 6 ∧ z k 6 ≤ 1073741824)) : TBd z (k + 1) := fun i hi => by
  by_cases e : i = k
  · rw [e]; exact h'
  · exact h i (by omega)
set_option maxHeartbeats 2000000 in
theorem great_any (A : Option Addr) (c n : Nat) (z : Nat → Nat → Int) (w : World) (hr : RdZ w 7 A n z) (hm : n ≤ 9223372036854775807) :
    Calls Try.prog 38 #[.slice A n c] w (GreatR z n w) := by
  by_cases hn : 100 < n
  · go_enter Try.func38, Try.ntmps38
    go_wp2_with fail
    go_ret
    exact ⟨true, rfl, Below.refl _ _, fun e => by cases e⟩
  · go_enter Try.func38, Try.ntmps38
    go_wp2_with fail
    go_loopw [3] (fun i wr => ∃ k : Nat, k ≤ n ∧ i = .int .i64 k ∧ Hid (TBd z k) ∧ Below w.heap.size w wr) (fun i _ => n - (intOf i).toNat)
    case atStart => exact ⟨0, by omega, rfl, Lib.hid (fun i h => absurd h (by omega)), Below.refl _ _⟩
    case round =>
      obtain ⟨k, hk, rfl, HB, hb⟩ := hrel
      by_cases h : k < n
      · obtain ⟨b, off, rfl, hlt, hc⟩ := rdZ_row (hr.kept hb) (by omega) (by omega)
        have c0 : wr.cell? ⟨b, off + k * 7, none⟩ = _ := hc k 0 h (by omega)
        have c1 := hc k 1 h (by omega)
        have c2 := hc k 2 h (by omega)
        have c3 := hc k 3 h (by omega)
        have c4 := hc k 4 h (by omega)
        have c5 := hc k 5 h (by omega)
        have c6 := hc k 6 h (by omega)
        clear hc
        have B1 := Lib.hid (hb.alloc hb.size (.cells #[.int .i64 (z k 0), .int .i64 (z k 1), .int .i64 (z k 2), .int .i64 (z k 3), .int .i64 (z k 4), .int .i64 (z k 5), .int .i64 (z k 6)] 68))
        by_cases g1 : z k 1 < -1
        · go_wp2_with fail
          all_goals
            go_ret
            exact ⟨true, rfl, B1.out, fun e => by cases e⟩
        · skip
          by_cases g5 : z k 5 < -1
          · go_wp2_with fail
            all_goals
              go_ret
              exact ⟨true, rfl, B1.out, fun e => by cases e⟩
          · skip
            by_cases g6 : z k 6 < -1
            · go_wp2_with fail
              all_goals
                go_ret
                exact ⟨true, rfl, B1.out, fun e => by cases e⟩
            · skip
              by_cases gm : 1073741824 < max (max (z k 1) (z k 5)) (z k 6)
              · go_wp2_with fail
                all_goals
                  go_ret
                  exact ⟨true, rfl, B1.out, fun e => by cases e⟩
              · skip
                have NX := Lib.hid (tbd_succ HB.out ⟨⟨by omega, by omega⟩, ⟨by omega, by omega⟩, ⟨by omega, by omega⟩⟩)
                go_wp2_with fail
                go_roundw
                case rel => exact ⟨k + 1, by omega, by go_num, NX, B1.out⟩
                case measure => simp [intOf]; omega
      · obtain rfl : k = n := by omega
        go_wp2_with fail
        go_ret
        exact ⟨false, rfl, hb, fun _ => ⟨by omega, HB.out⟩⟩
end Go.Proofs.Ytjokekohmncmkac
