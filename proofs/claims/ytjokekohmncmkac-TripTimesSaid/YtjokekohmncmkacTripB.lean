/- Contracts of trip.Waits, Transits, Aboard and of the document's; Great. -/
import Derived.Test.YtjokekohmncmkacRows
import Derived.Test.YtjokekohmncmkacRowKit
import Derived.Test.YtjokekohmncmkacRowS
import Derived.Test.YtjokekohmncmkacRowZ
import Derived.Test.YtjokekohmncmkacSlicesEq
import Derived.Test.YtjokekohmncmkacRowL
import Derived.Test.YtjokekohmncmkacTripMath
import Derived.Test.YtjokekohmncmkacTripA
import Derived.WalkKit
import Derived.IntWalk
import Derived.Lib.Hide
import Derived.Lib.SmallJoins
import Derived.WalkSpells
import Derived.WalkLawsBesides
import Derived.Deep.QuietTactic
import Derived.Deep.RegionHeld3
import Derived.Deep.AppendLies
import Derived.BigQuiet
import Derived.Below
import Derived.OwnWalk
namespace Go.Proofs.Ytjokekohmncmkac
open Go.RowKit
set_option linter.unusedSimpArgs false
set_option linter.unusedVariables false
theorem tinfo : (Try.prog.info? 3).map (fun i => (i.zero, i.size, i.bytes)) = some (some (.int .i64 0), 1, 8) := by kernel_rfl
theorem ownR_below {w w' : World} {base : Nat} {e : TypeId} {size : Nat} {v : Value} {n : Nat} {xs : List Value} (h : w.ownsRow base e size v n xs) (hb : Below w.heap.size w w') : w'.ownsRow base e size v n xs :=
  h.kept (row := none) ⟨hb.os, hb.tape, hb.output, hb.size, fun i hi _ => hb.block i hi⟩ (by cases hv : v.ownBlock <;> simp)
/-- the fields lie within bounds -/
def TBd (z : Nat → Nat → Int) (n : Nat) : Prop := ∀ i, i < n → (-1 ≤ z i 1 ∧ z i 1 ≤ 1073741824) ∧ (-1 ≤ z i 5 ∧ z i 5 ≤ 1073741824) ∧ (-1 ≤ z i 6 ∧ z i 6 ≤ 1073741824)
def OwnD (w : World) (base : Nat) (z : Nat → Nat → Int) (x y k : Nat) (v : Value) : Prop := w.ownsRow base 3 1 v (doneV z x y k).length ((doneV z x y k).map (Value.int .i64))
theorem ownD_zero (w : World) (base : Nat) (z : Nat → Nat → Int) (x y : Nat) : OwnD w base z x y 0 (.slice none 0 0) := World.ownsRow_nil _ _ _ _
theorem ownD_yes {w : World} {base : Nat} {z : Nat → Nat → Int} {x y k : Nat} {v : Value} {L : List Int} {d : Int} (hL : doneV z x y k = L) (h6 : 0 ≤ z k 6) (hd : z k x - z k y = d) (h : w.ownsRow base 3 1 v (L.length + 1) (L.map (Value.int .i64) ++ [.int .i64 d])) : OwnD w base z x y (k + 1) v := by
  unfold OwnD
  rw [done_yes h6, hL, hd, List.length_append, List.map_append]
  exact h
theorem ownD_no {w : World} {base : Nat} {z : Nat → Nat → Int} {x y k : Nat} {v : Value} (h6 : ¬ 0 ≤ z k 6) (h : OwnD w base z x y k v) : OwnD w base z x y (k + 1) v := by
  unfold OwnD at *
  rw [done_no h6]
  exact h
/-- a row that the call made is answered -/
def MadeL (L : List Int) (w : World) (e : Ending) (w' : World) : Prop := ∃ v, e = .returned v ∧ w'.ownsRow w.heap.size 3 1 v L.length (L.map (Value.int .i64)) ∧ Below w.heap.size w w'
theorem slice_of_own {w : World} {base : Nat} {e : TypeId} {v : Value} {n : Nat} {xs : List Value} (h : w.ownsRow base e 1 v n xs) : ∃ (g : Option Addr) (cap : Nat), v = .slice g n cap := by
  rcases h.2 with ⟨rfl, h0⟩ | ⟨g, cap, _, rfl, _⟩
  · exact ⟨none, 0, by rw [h0]⟩
  · exact ⟨_, cap, rfl⟩
set_option maxHeartbeats 400000 in
theorem waits_of (a0 a1 a2 a3 a4 a5 a6 : Int) (w : World) (h1 : -1 ≤ a5 ∧ a5 ≤ 1073741824) (h2 : -1 ≤ a1 ∧ a1 ≤ 1073741824) : Calls Try.prog 62 #[.agg #[.int .i64 a0, .int .i64 a1, .int .i64 a2, .int .i64 a3, .int .i64 a4, .int .i64 a5, .int .i64 a6]] w fun e w' => e = .returned (.int .i64 (a5 - a1)) ∧ Below w.heap.size w w' := by
  obtain ⟨h3, h4⟩ := h1
  obtain ⟨h5, h6⟩ := h2
  go_enter Try.func62, Try.ntmps62
  go_wp2_with fail
  go_ret
  exact ⟨rfl, (Below.refl _ _).alloc (Nat.le_refl _) _⟩
set_option maxHeartbeats 2000000 in
theorem waits_done (A : Option Addr) (c n : Nat) (z : Nat → Nat → Int) (w : World) (hr : RdZ w 7 A n z) (hn : n ≤ 1000) (hz : TBd z n) :
    Calls Try.prog 61 #[.slice A n c, .func (.func 62) #[] #[]] w (MadeL (doneV z 5 1 n) w) := by
  have HZ := Lib.hid hz
  clear hz
  obtain ⟨i0, hi, hz0, hz1, hz2⟩ := info_parts tinfo
  go_enter Try.func61, Try.ntmps61
  go_wp2_with fail
  go_loopw [5, 10] (fun v i wr => ∃ k : Nat, k ≤ n ∧ i = .int .i64 k ∧ OwnD wr w.heap.size z 5 1 k v ∧ Below w.heap.size w wr) (fun _ i _ => n - (intOf i).toNat)
  case atStart => exact ⟨0, by omega, rfl, ownD_zero _ _ _ _ _, Below.refl _ _⟩
  case round =>
    obtain ⟨k, hk, rfl, hown, hb⟩ := hrel
    by_cases h : k < n
    · obtain ⟨b, off, rfl, hlt, hc⟩ := rdZ_row (hr.kept hb) (by omega) (by omega)
      have c0 : wr.cell? ⟨b, off + k * 7, none⟩ = _ := hc k 0 h (by omega)
      have c1 := hc k 1 h (by omega)
      have c2 := hc k 2 h (by omega)
      have c3 := hc k 3 h (by omega)
      have c4 := hc k 4 h (by omega)
      have c5 := hc k 5 h (by omega)
      have c6 := hc k 6 h (by omega)
      clear hc
      have B1 := Lib.hid (hb.alloc hb.size (.cells #[.int .i64 (z k 0), .int .i64 (z k 1), .int .i64 (z k 2), .int .i64 (z k 3), .int .i64 (z k 4), .int .i64 (z k 5), .int .i64 (z k 6)] 68))
      have T := fun w => tat_any (z k 0) (z k 1) (z k 2) (z k 3) (z k 4) (z k 5) (z k 6) w
      by_cases h6 : 0 ≤ z k 6
      · rw [phase_done h6] at T
        have HT := Lib.hid T
        obtain ⟨z1, z5, z6⟩ := HZ.out k h
        have HC := Lib.hid (fun w => waits_of (z k 0) (z k 1) (z k 2) (z k 3) (z k 4) (z k 5) (z k 6) w z5 z1)
        obtain ⟨d, hd⟩ : ∃ d, z k 5 - z k 1 = d := ⟨_, rfl⟩
        obtain ⟨L, hL⟩ : ∃ L, doneV z 5 1 k = L := ⟨_, rfl⟩
        have hLl : L.length ≤ k := by rw [← hL]; exact done_len z 5 1 k
        have hown1 : wr.ownsRow w.heap.size 3 1 u5 L.length (L.map (Value.int .i64)) := by rw [← hL]; exact hown
        obtain ⟨g, cap, hv⟩ := slice_of_own hown1
        subst hv
        have HD := Lib.hid hd
        have HL := Lib.hid hL
        have HC2 := Lib.hid (show ∀ w, _ from fun w => by have := HC.out w; rw [hd] at this; exact this)
        clear T hd hL hown z1 z5 z6
        go_wp2_with fail
        refine (HT.out _).mono ?_
        rintro e w1 ⟨rfl, hb1⟩
        have l := fun j v (h : #[(.int .i64 (z k 0) : Value), .int .i64 (z k 1), .int .i64 (z k 2), .int .i64 (z k 3), .int .i64 (z k 4), .int .i64 (z k 5), .int .i64 (z k 6)][j]? = some v) => keepc hb1 (b := wr.heap.size) (o := j) (by rw [World.cell?_alloc_mark]; exact h)
        have l0 := l 0 _ rfl
        have l1 := l 1 _ rfl
        have l2 := l 2 _ rfl
        have l3 := l 3 _ rfl
        have l4 := l 4 _ rfl
        have l5 := l 5 _ rfl
        have l6 := l 6 _ rfl
        clear l
        have own1 := ownR_below (hown1.alloc (.cells #[.int .i64 (z k 0), .int .i64 (z k 1), .int .i64 (z k 2), .int .i64 (z k 3), .int .i64 (z k 4), .int .i64 (z k 5), .int .i64 (z k 6)] 68)) hb1
        have q1 := B1.out.trans (Joins.below_le hb1 B1.out.size)
        clear hown1 hb1 c0 c1 c2 c3 c4 c5 c6
        go_wp2_with fail
        refine (HC2.out _).mono ?_
        rintro e w2 ⟨rfl, hb2⟩
        have own2 := ownR_below own1 hb2
        have q2 := q1.trans (Joins.below_le hb2 q1.size)
        clear own1 hb2 q1 l0 l1 l2 l3 l4 l5 l6
        go_wp2_with (at_builtin; refine wpList_append_own _ rfl _ _ 77 rfl w.heap.size 3 i0 (.int .i64 0) 1 8 Try.underlying77 hi hz0 hz1 hz2 rfl (by decide) _ _ _ rfl (own2.alloc _) ⟨_, 0, none⟩ 1 1 [.int .i64 d] rfl rfl one_newR (by intro u hu; simp at hu; subst hu; rfl) (by unfold maxLen; omega) (by omega) (by have := q2.size; simp; omega) ?_; intro v' w3 hown' hgrow _)
        have q3 : Below w.heap.size w w3 := by
          refine (q2.alloc q2.size _).grown hgrow (by have := q2.size; simp; omega) (fun g hg => ?_)
          first | exact ownR_ge own2 hg | exact ownR_ge own2 hg.symm
        have hown2 : OwnD w3 w.heap.size z 5 1 (k + 1) v' := ownD_yes HL.out h6 HD.out hown'
        clear hown' hgrow own2
        go_wp2_with fail
        go_roundw
        case rel => exact ⟨k + 1, by omega, by go_num, hown2, q3⟩
        case measure => simp [intOf]; omega
      · obtain ⟨p, hp⟩ : ∃ p, phaseV (z k 5) (z k 6) = p := ⟨_, rfl⟩
        have hp2 : (p == 2) = false := by rw [beq_eq_false_iff_ne, ← hp]; unfold phaseV; rw [if_neg h6]; split <;> omega
        rw [hp] at T
        have HT := Lib.hid T
        have hown1 := hown
        clear T hp hown
        go_wp2_with fail
        refine (HT.out _).mono ?_
        rintro e w1 ⟨rfl, hb1⟩
        have own1 : OwnD w1 w.heap.size z 5 1 k u5 := ownR_below (World.ownsRow.alloc hown1 (.cells #[.int .i64 (z k 0), .int .i64 (z k 1), .int .i64 (z k 2), .int .i64 (z k 3), .int .i64 (z k 4), .int .i64 (z k 5), .int .i64 (z k 6)] 68)) hb1
        have q1 := B1.out.trans (Joins.below_le hb1 B1.out.size)
        clear hown1 hb1
        go_wp2_with fail
        go_roundw
        case rel => exact ⟨k + 1, by omega, by go_num, ownD_no (by omega) own1, q1⟩
        case measure => simp [intOf]; omega
    · obtain rfl : k = n := by omega
      go_wp2_with fail
      go_ret
      exact ⟨_, rfl, hown, hb⟩
set_option maxHeartbeats 400000 in
theorem waits_any (A : Option Addr) (c n : Nat) (z : Nat → Nat → Int) (w : World) (hr : RdZ w 7 A n z) (hn : n ≤ 1000) (hz : TBd z n) :
    Calls Try.prog 40 #[.slice A n c] w (MadeL (doneV z 5 1 n) w) := by
  have H := Lib.hid (waits_done A c n z w hr hn hz)
  clear hr hz
  go_enter Try.func40, Try.ntmps40
  go_wp2_with (go_at_call 61; refine H.out.mono ?_; rintro e w1 ⟨v, rfl, hown, hb⟩)
  go_ret
  exact ⟨v, rfl, hown, hb⟩
set_option maxHeartbeats 400000 in
theorem transits_of (a0 a1 a2 a3 a4 a5 a6 : Int) (w : World) (h1 : -1 ≤ a6 ∧ a6 ≤ 1073741824) (h2 : -1 ≤ a5 ∧ a5 ≤ 1073741824) : Calls Try.prog 63 #[.agg #[.int .i64 a0, .int .i64 a1, .int .i64 a2, .int .i64 a3, .int .i64 a4, .int .i64 a5, .int .i64 a6]] w fun e w' => e = .returned (.int .i64 (a6 - a5)) ∧ Below w.heap.size w w' := by
  obtain ⟨h3, h4⟩ := h1
  obtain ⟨h5, h6⟩ := h2
  go_enter Try.func63, Try.ntmps63
  go_wp2_with fail
  go_ret
  exact ⟨rfl, (Below.refl _ _).alloc (Nat.le_refl _) _⟩
set_option maxHeartbeats 2000000 in
theorem transits_done (A : Option Addr) (c n : Nat) (z : Nat → Nat → Int) (w : World) (hr : RdZ w 7 A n z) (hn : n ≤ 1000) (hz : TBd z n) :
    Calls Try.prog 61 #[.slice A n c, .func (.func 63) #[] #[]] w (MadeL (doneV z 6 5 n) w) := by
  have HZ := Lib.hid hz
  clear hz
  obtain ⟨i0, hi, hz0, hz1, hz2⟩ := info_parts tinfo
  go_enter Try.func61, Try.ntmps61
  go_wp2_with fail
  go_loopw [5, 10] (fun v i wr => ∃ k : Nat, k ≤ n ∧ i = .int .i64 k ∧ OwnD wr w.heap.size z 6 5 k v ∧ Below w.heap.size w wr) (fun _ i _ => n - (intOf i).toNat)
  case atStart => exact ⟨0, by omega, rfl, ownD_zero _ _ _ _ _, Below.refl _ _⟩
  case round =>
    obtain ⟨k, hk, rfl, hown, hb⟩ := hrel
    by_cases h : k < n
    · obtain ⟨b, off, rfl, hlt, hc⟩ := rdZ_row (hr.kept hb) (by omega) (by omega)
      have c0 : wr.cell? ⟨b, off + k * 7, none⟩ = _ := hc k 0 h (by omega)
      have c1 := hc k 1 h (by omega)
      have c2 := hc k 2 h (by omega)
      have c3 := hc k 3 h (by omega)
      have c4 := hc k 4 h (by omega)
      have c5 := hc k 5 h (by omega)
      have c6 := hc k 6 h (by omega)
      clear hc
      have B1 := Lib.hid (hb.alloc hb.size (.cells #[.int .i64 (z k 0), .int .i64 (z k 1), .int .i64 (z k 2), .int .i64 (z k 3), .int .i64 (z k 4), .int .i64 (z k 5), .int .i64 (z k 6)] 68))
      have T := fun w => tat_any (z k 0) (z k 1) (z k 2) (z k 3) (z k 4) (z k 5) (z k 6) w
      by_cases h6 : 0 ≤ z k 6
      · rw [phase_done h6] at T
        have HT := Lib.hid T
        obtain ⟨z1, z5, z6⟩ := HZ.out k h
        have HC := Lib.hid (fun w => transits_of (z k 0) (z k 1) (z k 2) (z k 3) (z k 4) (z k 5) (z k 6) w z6 z5)
        obtain ⟨d, hd⟩ : ∃ d, z k 6 - z k 5 = d := ⟨_, rfl⟩
        obtain ⟨L, hL⟩ : ∃ L, doneV z 6 5 k = L := ⟨_, rfl⟩
        have hLl : L.length ≤ k := by rw [← hL]; exact done_len z 6 5 k
        have hown1 : wr.ownsRow w.heap.size 3 1 u5 L.length (L.map (Value.int .i64)) := by rw [← hL]; exact hown
        obtain ⟨g, cap, hv⟩ := slice_of_own hown1
        subst hv
        have HD := Lib.hid hd
        have HL := Lib.hid hL
        have HC2 := Lib.hid (show ∀ w, _ from fun w => by have := HC.out w; rw [hd] at this; exact this)
        clear T hd hL hown z1 z5 z6
        go_wp2_with fail
        refine (HT.out _).mono ?_
        rintro e w1 ⟨rfl, hb1⟩
        have l := fun j v (h : #[(.int .i64 (z k 0) : Value), .int .i64 (z k 1), .int .i64 (z k 2), .int .i64 (z k 3), .int .i64 (z k 4), .int .i64 (z k 5), .int .i64 (z k 6)][j]? = some v) => keepc hb1 (b := wr.heap.size) (o := j) (by rw [World.cell?_alloc_mark]; exact h)
        have l0 := l 0 _ rfl
        have l1 := l 1 _ rfl
        have l2 := l 2 _ rfl
        have l3 := l 3 _ rfl
        have l4 := l 4 _ rfl
        have l5 := l 5 _ rfl
        have l6 := l 6 _ rfl
        clear l
        have own1 := ownR_below (hown1.alloc (.cells #[.int .i64 (z k 0), .int .i64 (z k 1), .int .i64 (z k 2), .int .i64 (z k 3), .int .i64 (z k 4), .int .i64 (z k 5), .int .i64 (z k 6)] 68)) hb1
        have q1 := B1.out.trans (Joins.below_le hb1 B1.out.size)
        clear hown1 hb1 c0 c1 c2 c3 c4 c5 c6
        go_wp2_with fail
        refine (HC2.out _).mono ?_
        rintro e w2 ⟨rfl, hb2⟩
        have own2 := ownR_below own1 hb2
        have q2 := q1.trans (Joins.below_le hb2 q1.size)
        clear own1 hb2 q1 l0 l1 l2 l3 l4 l5 l6
        go_wp2_with (at_builtin; refine wpList_append_own _ rfl _ _ 77 rfl w.heap.size 3 i0 (.int .i64 0) 1 8 Try.underlying77 hi hz0 hz1 hz2 rfl (by decide) _ _ _ rfl (own2.alloc _) ⟨_, 0, none⟩ 1 1 [.int .i64 d] rfl rfl one_newR (by intro u hu; simp at hu; subst hu; rfl) (by unfold maxLen; omega) (by omega) (by have := q2.size; simp; omega) ?_; intro v' w3 hown' hgrow _)
        have q3 : Below w.heap.size w w3 := by
          refine (q2.alloc q2.size _).grown hgrow (by have := q2.size; simp; omega) (fun g hg => ?_)
          first | exact ownR_ge own2 hg | exact ownR_ge own2 hg.symm
        have hown2 : OwnD w3 w.heap.size z 6 5 (k + 1) v' := ownD_yes HL.out h6 HD.out hown'
        clear hown' hgrow own2
        go_wp2_with fail
        go_roundw
        case rel => exact ⟨k + 1, by omega, by go_num, hown2, q3⟩
        case measure => simp [intOf]; omega
      · obtain ⟨p, hp⟩ : ∃ p, phaseV (z k 5) (z k 6) = p := ⟨_, rfl⟩
        have hp2 : (p == 2) = false := by rw [beq_eq_false_iff_ne, ← hp]; unfold phaseV; rw [if_neg h6]; split <;> omega
        rw [hp] at T
        have HT := Lib.hid T
        have hown1 := hown
        clear T hp hown
        go_wp2_with fail
        refine (HT.out _).mono ?_
        rintro e w1 ⟨rfl, hb1⟩
        have own1 : OwnD w1 w.heap.size z 6 5 k u5 := ownR_below (World.ownsRow.alloc hown1 (.cells #[.int .i64 (z k 0), .int .i64 (z k 1), .int .i64 (z k 2), .int .i64 (z k 3), .int .i64 (z k 4), .int .i64 (z k 5), .int .i64 (z k 6)] 68)) hb1
        have q1 := B1.out.trans (Joins.below_le hb1 B1.out.size)
        clear hown1 hb1
        go_wp2_with fail
        go_roundw
        case rel => exact ⟨k + 1, by omega, by go_num, ownD_no (by omega) own1, q1⟩
        case measure => simp [intOf]; omega
    · obtain rfl : k = n := by omega
      go_wp2_with fail
      go_ret
      exact ⟨_, rfl, hown, hb⟩
set_option maxHeartbeats 400000 in
theorem transits_any (A : Option Addr) (c n : Nat) (z : Nat → Nat → Int) (w : World) (hr : RdZ w 7 A n z) (hn : n ≤ 1000) (hz : TBd z n) :
    Calls Try.prog 42 #[.slice A n c] w (MadeL (doneV z 6 5 n) w) := by
  have H := Lib.hid (transits_done A c n z w hr hn hz)
  clear hr hz
  go_enter Try.func42, Try.ntmps42
  go_wp2_with (go_at_call 61; refine H.out.mono ?_; rintro e w1 ⟨v, rfl, hown, hb⟩)
  go_ret
  exact ⟨v, rfl, hown, hb⟩
end Go.Proofs.Ytjokekohmncmkac
