/- The walk of DiffWays: it answers true for every input, and leaves all old blocks as they were. No condition. -/
import Derived.Test.YtodfjghgcphhhabRows
import Derived.Test.YtodfjghgcphhhabRowKit
import Derived.Test.YtodfjghgcphhhabRowS
import Derived.Test.YtodfjghgcphhhabRowZ
import Derived.Test.YtodfjghgcphhhabRowV
import Derived.Test.YtodfjghgcphhhabRowW
import Derived.Test.YtodfjghgcphhhabSlicesEq
import Derived.Test.YtodfjghgcphhhabBlocks
import Derived.Test.YtodfjghgcphhhabAtKit
import Derived.Test.YtodfjghgcphhhabGanttMath
import Derived.Test.YtodfjghgcphhhabTrackA
import Derived.Test.YtodfjghgcphhhabTrackB
import Derived.Test.YtodfjghgcphhhabGanttA
import Derived.Test.YtodfjghgcphhhabWaysMath
import Derived.Test.YtodfjghgcphhhabWaysA
import Derived.Test.YtodfjghgcphhhabWaysB
import Derived.Test.YtodfjghgcphhhabDiffAl
import Derived.WalkKit
import Derived.ProofKit
import Derived.OpenShut
import Derived.Deep.QuietTactic
import Derived.BigQuiet
import Derived.Lib.SmallJoins
import Derived.Lib.Hide
import Derived.WalkSpells
import Derived.WalkLawsBesides
import Derived.OwnWalk
import Derived.BigRegion
import Derived.Deep.LoopGhost
import Derived.Deep.RegionHeld3
import Derived.IntWalk
namespace Go.Proofs.Ytodfjghgcphhhab.diffWays
open Go.ChangeShapes Go.WideShapes Go.ChangeAt Go.RowKit Go.Joins
set_option linter.unusedSimpArgs false
set_option linter.unusedVariables false

/-- where two ways part from a tick on -/
def FromW (f : Int → Bool) (s h at' : Int) (ap : Bool) : Prop := (ap = false ∧ at' = 0 ∧ ∀ t, s ≤ t → t < h → f t = false) ∨ (ap = true ∧ s ≤ at' ∧ at' < h ∧ f at' = true ∧ ∀ t, s ≤ t → t < at' → f t = false)
theorem fromW_end (f : Int → Bool) (s h : Int) (hs : h ≤ s) : FromW f s h 0 false := .inl ⟨rfl, rfl, fun t h1 h2 => by omega⟩
theorem fromW_no {f : Int → Bool} {s h a : Int} {p : Bool} (hf : f s = false) (hw : FromW f (s + 1) h a p) : FromW f s h a p := by
  rcases hw with ⟨h1, h2, h3⟩ | ⟨h1, h2, h3, h4, h5⟩
  · refine .inl ⟨h1, h2, fun t t0 t1 => ?_⟩
    rcases Int.lt_or_eq_of_le t0 with e | e
    · exact h3 t (by omega) t1
    · rw [← e]; exact hf
  · refine .inr ⟨h1, by omega, h3, h4, fun t t0 t1 => ?_⟩
    rcases Int.lt_or_eq_of_le t0 with e | e
    · exact h5 t (by omega) t1
    · rw [← e]; exact hf
theorem fromW_yes {f : Int → Bool} {s h : Int} (hf : f s = true) (hs : s < h) : FromW f s h s true := .inr ⟨rfl, Int.le_refl _, hs, hf, fun t t0 t1 => by omega⟩
theorem fromW_first {f : Int → Bool} {h a : Int} {p : Bool} (hw : FromW f 0 h a p) : FirstW f h a p := hw
theorem neq_false {a b : Int} (h : a ≠ b) : (a == b) = false := by simpa using h
set_option maxRecDepth 100000 in
set_option maxHeartbeats 8000000 in
theorem walk_f (A B : Option Addr) (c d n m : Nat) (T P D : Nat → Int) (O : Nat → Bool) (T' P' D' : Nat → Int) (O' : Nat → Bool) (h : Int) (w : World) (ha : RdL w A n T P D O) (hb : RdL w B m T' P' D' O') (hl : n ≤ 9223372036854775807) (hl2 : m ≤ 9223372036854775807) (a1 : n ≤ c) (a2 : A = none → c = 0) (b1 : m ≤ d) (b2 : B = none → d = 0) (hh0 : -9223372036854775808 ≤ h) :
    Calls Try.prog 3 #[.slice A n c, .slice B m d, .int .i64 h] w fun e w' => e = .returned (.bool true) ∧ Below w.heap.size w w' := by
  have HA := Lib.hid ha; have HB := Lib.hid hb
  have GA := Lib.hid (fun W hr => great25_any A c n T P D O W hr hl)
  have GB := Lib.hid (fun W hr => great25_any B d m T' P' D' O' W hr hl2)
  have KW := Lib.hid (fun W ha hb fa fb hh => ways_any A B c d n m T P D O T' P' D' O' h W ha hb fa fb hh a1 a2 b1 b2)
  have AL := Lib.hid alive_any
  clear ha hb a1 a2 b1 b2
  go_enter Try.func3, Try.ntmps3
  go_wp2_with fail
  refine (GA.out _ HA.out).mono ?_
  rintro e w1 ⟨r1, rfl, hf1, hb⟩
  have EE := Lib.hid hb
  have HF1 := Lib.hid hf1
  clear hb hf1
  cases r1
  case true =>
    go_wp2_with fail
    go_ret
    exact ⟨rfl, EE.out⟩
  go_wp2_with fail
  refine (GB.out _ (HB.out.kept EE.out)).mono ?_
  rintro e w2 ⟨r2, rfl, hf2, hb⟩
  have E2 := Lib.hid (EE.out.trans (hb.mono EE.out.size))
  have HF2 := Lib.hid hf2
  clear hb hf2 EE
  have EE := E2
  cases r2
  case true =>
    go_wp2_with fail
    go_ret
    exact ⟨rfl, EE.out⟩
  by_cases hh : 300 < h
  · go_wp2_with fail
    go_ret
    exact ⟨rfl, EE.out⟩
  have hh3 : h ≤ 300 := by omega
  have K1 := Lib.hid (fun t W hr t1 t2 => dat_any A c n T P D O t W hr (HF1.out (by first | rfl | trivial)) t1 t2)
  have K2 := Lib.hid (fun t W hr t1 t2 => dat_any B d m T' P' D' O' t W hr (HF2.out (by first | rfl | trivial)) t1 t2)
  have KW2 := Lib.hid (fun W ha hb => KW.out W ha hb (HF1.out (by first | rfl | trivial)) (HF2.out (by first | rfl | trivial)) hh3)
  have APF := Lib.hid (fun t => apW_false (T := T) (P := P) (D := D) (O := O) (n := n) (T' := T') (P' := P') (D' := D') (O' := O') (m := m) (t := t))
  obtain ⟨f, hf⟩ : ∃ f, apW T P D O n T' P' D' O' m = f := ⟨_, rfl⟩
  rw [hf] at KW2 APF
  clear hf hh
  by_cases hp : 0 < h
  case neg =>
    have FW := Lib.hid (fromW_first (fromW_end f 0 h (by omega)))
    obtain ⟨t0, ht0⟩ : ∃ q, IntKind.i64.wrap (h - 1) = q := ⟨_, rfl⟩
    have FIN : Hid (∀ a p, FirstW f h a p → a = 0 ∧ p = false) := Lib.hid fun a p hw => firstW_one hw FW.out
    have dp : decide (0 < h) = false := decide_eq_false hp
    have npp : ¬ (0 < h) := hp
    by_cases c0 : 0 ≤ t0
    · have d0 : decide (0 ≤ t0) = true := decide_eq_true c0
      go_wp2_with fail
      go_loopw [7, 8, 9] (fun va vp i wr => va = .int .i64 0 ∧ vp = .bool false ∧ i = .int .i64 t0 ∧ wr = w2) (fun _ _ _ _ => 0)
      case atStart => exact ⟨rfl, rfl, rfl, rfl⟩
      case round =>
        obtain ⟨rfl, rfl, rfl, hw⟩ := hrel
        have hw' := hw.symm; clear hw; subst hw'
        go_wp2_with fail
        refine (KW2.out _ (HA.out.kept EE.out) (HB.out.kept EE.out)).mono ?_
        rintro e w3 ⟨a, p, rfl, hfw, hb⟩
        obtain ⟨rfl, rfl⟩ := FIN.out a p hfw
        have E3 := Lib.hid (EE.out.trans (hb.mono EE.out.size))
        clear hb hfw
        go_wp2_with fail
        refine (AL.out _).mono ?_
        rintro e w4 ⟨rfl, hb⟩
        have E4 := Lib.hid (E3.out.trans (hb.mono E3.out.size))
        clear hb
        go_wp2_with fail
        first | exact ⟨rfl, E4.out⟩ | (go_ret; exact ⟨rfl, E4.out⟩)
    · have d0 : decide (0 ≤ t0) = false := decide_eq_false c0
      go_wp2_with fail
      go_loopw [7, 8, 9] (fun va vp i wr => va = .int .i64 0 ∧ vp = .bool false ∧ i = .int .i64 t0 ∧ wr = w2) (fun _ _ _ _ => 0)
      case atStart => exact ⟨rfl, rfl, rfl, rfl⟩
      case round =>
        obtain ⟨rfl, rfl, rfl, hw⟩ := hrel
        have hw' := hw.symm; clear hw; subst hw'
        go_wp2_with fail
        refine (KW2.out _ (HA.out.kept EE.out) (HB.out.kept EE.out)).mono ?_
        rintro e w3 ⟨a, p, rfl, hfw, hb⟩
        obtain ⟨rfl, rfl⟩ := FIN.out a p hfw
        have E3 := Lib.hid (EE.out.trans (hb.mono EE.out.size))
        clear hb hfw
        go_wp2_with fail
        refine (AL.out _).mono ?_
        rintro e w4 ⟨rfl, hb⟩
        have E4 := Lib.hid (E3.out.trans (hb.mono E3.out.size))
        clear hb
        go_wp2_with fail
        first | exact ⟨rfl, E4.out⟩ | (go_ret; exact ⟨rfl, E4.out⟩)
  have wh : IntKind.i64.wrap (h - 1) = h - 1 := IntWalk.i64_in _ (by omega)
  go_wp2_with fail
  go_loopw [7, 8, 9] (fun va vp i wr => ∃ (s : Nat) (a : Int) (p : Bool), (s : Int) ≤ h ∧ va = .int .i64 a ∧ vp = .bool p ∧ i = .int .i64 ((s : Int) - 1) ∧ Hid (FromW f s h a p) ∧ Below w.heap.size w wr) (fun _ _ i _ => (intOf i + 1).toNat)
  case atStart => exact ⟨h.toNat, 0, false, by omega, rfl, rfl, congrArg (Value.int .i64) (by omega), Lib.hid (fromW_end f _ h (by omega)), EE.out⟩
  case round =>
    obtain ⟨s, a, p, hs, rfl, rfl, rfl, HFW, hB⟩ := hrel
    have EE := Lib.hid hB
    clear hB
    have dp : decide (0 < h) = true := decide_eq_true hp
    by_cases hs0 : s = 0
    · subst hs0
      have FW := Lib.hid (fromW_first HFW.out)
      have FIN : Hid (∀ a' p', FirstW f h a' p' → a' = a ∧ p' = p) := Lib.hid fun a' p' hw => firstW_one hw FW.out
      have d0 : decide ((0 : Int) ≤ ((0 : Nat) : Int) - 1) = false := decide_eq_false (by omega)
      go_wp2_with fail
      refine (KW2.out _ (HA.out.kept EE.out) (HB.out.kept EE.out)).mono ?_
      rintro e w3 ⟨a', p', rfl, hfw, hb⟩
      obtain ⟨rfl, rfl⟩ := FIN.out a' p' hfw
      have E3 := Lib.hid (EE.out.trans (hb.mono EE.out.size))
      clear hb hfw
      cases p' <;> (
        go_wp2_with fail
        refine (AL.out _).mono ?_
        rintro e w4 ⟨rfl, hb⟩
        have E4 := Lib.hid (E3.out.trans (hb.mono E3.out.size))
        clear hb
        go_wp2_with fail
        first | exact ⟨rfl, E4.out⟩ | (go_ret; exact ⟨rfl, E4.out⟩))
    · obtain ⟨t, rfl⟩ : ∃ t, s = t + 1 := ⟨s - 1, by omega⟩
      have et : ((t + 1 : Nat) : Int) - 1 = (t : Int) := by omega
      rw [et]
      have d0 : decide ((0 : Int) ≤ (t : Int)) = true := decide_eq_true (by omega)
      have wt : IntKind.i64.wrap ((t : Int) - 1) = (t : Int) - 1 := IntWalk.i64_in _ (by omega)
      have AF := APF.out t
      have k1 := K1.out t
      have k2 := K2.out t
      obtain ⟨p1, h1⟩ : ∃ q, posL T P D t (lastL T t n) = q := ⟨_, rfl⟩
      obtain ⟨d1, h2⟩ : ∃ q, dorL O (lastL T t n) = q := ⟨_, rfl⟩
      obtain ⟨i1, h3⟩ : ∃ q, decide (0 < lastL T t n) = q := ⟨_, rfl⟩
      obtain ⟨p2, h4⟩ : ∃ q, posL T' P' D' t (lastL T' t m) = q := ⟨_, rfl⟩
      obtain ⟨d2, h5⟩ : ∃ q, dorL O' (lastL T' t m) = q := ⟨_, rfl⟩
      obtain ⟨i2, h6⟩ : ∃ q, decide (0 < lastL T' t m) = q := ⟨_, rfl⟩
      rw [h1, h2, h3, h4, h5, h6] at AF
      rw [h1, h2, h3] at k1
      rw [h4, h5, h6] at k2
      have J1 := Lib.hid k1; have J2 := Lib.hid k2
      have HFW2 : Hid (FromW f ((t : Int) + 1) h a p) := Lib.hid (by have := HFW.out; rwa [show ((t + 1 : Nat) : Int) = (t : Int) + 1 by omega] at this)
      have YES : Hid (f t = true → FromW f t h t true) := Lib.hid fun q => fromW_yes q (by omega)
      have NO : Hid (f t = false → FromW f t h a p) := Lib.hid fun q => fromW_no q HFW2.out
      clear h1 h2 h3 h4 h5 h6 k1 k2 et HFW HFW2
      by_cases hp : p1 = p2
      case neg =>
        have n1 := neq_false hp
        have FY : Hid (FromW f t h t true) := Lib.hid (YES.out (by cases hq : f t with | true => rfl | false => exact absurd (AF.1 hq) (by simp [hp])))
        clear AF hp
        go_wp2_with fail
        refine (J1.out _ (HA.out.kept EE.out) (by omega) (by omega)).mono ?_
        rintro e v1 ⟨rfl, hb⟩
        have E1 := Lib.hid (EE.out.trans (hb.mono EE.out.size))
        clear hb
        have BX := Lib.hid (E1.out.alloc E1.out.size (.cells #[.int .i64 p1, .bool d1] 25))
        have l1 : ∀ (X : World) (g o : Nat), X.heap.size = X.heap.size := fun _ _ _ => rfl
        go_wp2_with fail
        refine (J2.out _ (HB.out.kept BX.out) (by omega) (by omega)).mono ?_
        rintro e v2 ⟨rfl, hb⟩
        have E2 := Lib.hid (BX.out.trans (hb.mono BX.out.size))
        have XB := (Blk.new v1 #[.int .i64 p1, .bool d1] 25).next hb
        have x0 := XB.cell 0; have x1 := XB.cell 1; have xl := XB.lt
        have EY := Lib.hid (E2.out.alloc E2.out.size (.cells #[.int .i64 p2, .bool d2] 25))
        clear hb XB
        go_wp2_with fail
        go_roundw
        case rel => exact ⟨t, t, true, by omega, rfl, rfl, rfl, FY, EY.out⟩
        case measure => (simp [intOf]) <;> omega
      subst hp
      by_cases hd : d1 = d2
      case neg =>
        have FY : Hid (FromW f t h t true) := Lib.hid (YES.out (by cases hq : f t with | true => rfl | false => exact absurd (AF.1 hq) (by simp [hd])))
        cases d1 <;> cases d2 <;> first | exact absurd rfl hd | skip
        all_goals clear AF hd
        · skip
          go_wp2_with fail
          refine (J1.out _ (HA.out.kept EE.out) (by omega) (by omega)).mono ?_
          rintro e v1 ⟨rfl, hb⟩
          have E1 := Lib.hid (EE.out.trans (hb.mono EE.out.size))
          clear hb
          have BX := Lib.hid (E1.out.alloc E1.out.size (.cells #[.int .i64 p1, .bool false] 25))
          have l1 : ∀ (X : World) (g o : Nat), X.heap.size = X.heap.size := fun _ _ _ => rfl
          go_wp2_with fail
          refine (J2.out _ (HB.out.kept BX.out) (by omega) (by omega)).mono ?_
          rintro e v2 ⟨rfl, hb⟩
          have E2 := Lib.hid (BX.out.trans (hb.mono BX.out.size))
          have XB := (Blk.new v1 #[.int .i64 p1, .bool false] 25).next hb
          have x0 := XB.cell 0; have x1 := XB.cell 1; have xl := XB.lt
          have EY := Lib.hid (E2.out.alloc E2.out.size (.cells #[.int .i64 p1, .bool true] 25))
          clear hb XB
          go_wp2_with fail
          go_roundw
          case rel => exact ⟨t, t, true, by omega, rfl, rfl, rfl, FY, EY.out⟩
          case measure => (simp [intOf]) <;> omega
        · skip
          go_wp2_with fail
          refine (J1.out _ (HA.out.kept EE.out) (by omega) (by omega)).mono ?_
          rintro e v1 ⟨rfl, hb⟩
          have E1 := Lib.hid (EE.out.trans (hb.mono EE.out.size))
          clear hb
          have BX := Lib.hid (E1.out.alloc E1.out.size (.cells #[.int .i64 p1, .bool true] 25))
          have l1 : ∀ (X : World) (g o : Nat), X.heap.size = X.heap.size := fun _ _ _ => rfl
          go_wp2_with fail
          refine (J2.out _ (HB.out.kept BX.out) (by omega) (by omega)).mono ?_
          rintro e v2 ⟨rfl, hb⟩
          have E2 := Lib.hid (BX.out.trans (hb.mono BX.out.size))
          have XB := (Blk.new v1 #[.int .i64 p1, .bool true] 25).next hb
          have x0 := XB.cell 0; have x1 := XB.cell 1; have xl := XB.lt
          have EY := Lib.hid (E2.out.alloc E2.out.size (.cells #[.int .i64 p1, .bool false] 25))
          clear hb XB
          go_wp2_with fail
          go_roundw
          case rel => exact ⟨t, t, true, by omega, rfl, rfl, rfl, FY, EY.out⟩
          case measure => (simp [intOf]) <;> omega
      subst hd
      by_cases hi : i1 = i2
      case neg =>
        have FY : Hid (FromW f t h t true) := Lib.hid (YES.out (by cases hq : f t with | true => rfl | false => exact absurd (AF.1 hq) (by simp [hi])))
        cases i1 <;> cases i2 <;> first | exact absurd rfl hi | skip
        all_goals clear AF hi
        · skip
          go_wp2_with fail
          refine (J1.out _ (HA.out.kept EE.out) (by omega) (by omega)).mono ?_
          rintro e v1 ⟨rfl, hb⟩
          have E1 := Lib.hid (EE.out.trans (hb.mono EE.out.size))
          clear hb
          have BX := Lib.hid (E1.out.alloc E1.out.size (.cells #[.int .i64 p1, .bool d1] 25))
          have l1 : ∀ (X : World) (g o : Nat), X.heap.size = X.heap.size := fun _ _ _ => rfl
          go_wp2_with fail
          refine (J2.out _ (HB.out.kept BX.out) (by omega) (by omega)).mono ?_
          rintro e v2 ⟨rfl, hb⟩
          have E2 := Lib.hid (BX.out.trans (hb.mono BX.out.size))
          have XB := (Blk.new v1 #[.int .i64 p1, .bool d1] 25).next hb
          have x0 := XB.cell 0; have x1 := XB.cell 1; have xl := XB.lt
          have EY := Lib.hid (E2.out.alloc E2.out.size (.cells #[.int .i64 p1, .bool d1] 25))
          clear hb XB
          go_wp2_with fail
          go_roundw
          case rel => exact ⟨t, t, true, by omega, rfl, rfl, rfl, FY, EY.out⟩
          case measure => (simp [intOf]) <;> omega
        · skip
          go_wp2_with fail
          refine (J1.out _ (HA.out.kept EE.out) (by omega) (by omega)).mono ?_
          rintro e v1 ⟨rfl, hb⟩
          have E1 := Lib.hid (EE.out.trans (hb.mono EE.out.size))
          clear hb
          have BX := Lib.hid (E1.out.alloc E1.out.size (.cells #[.int .i64 p1, .bool d1] 25))
          have l1 : ∀ (X : World) (g o : Nat), X.heap.size = X.heap.size := fun _ _ _ => rfl
          go_wp2_with fail
          refine (J2.out _ (HB.out.kept BX.out) (by omega) (by omega)).mono ?_
          rintro e v2 ⟨rfl, hb⟩
          have E2 := Lib.hid (BX.out.trans (hb.mono BX.out.size))
          have XB := (Blk.new v1 #[.int .i64 p1, .bool d1] 25).next hb
          have x0 := XB.cell 0; have x1 := XB.cell 1; have xl := XB.lt
          have EY := Lib.hid (E2.out.alloc E2.out.size (.cells #[.int .i64 p1, .bool d1] 25))
          clear hb XB
          go_wp2_with fail
          go_roundw
          case rel => exact ⟨t, t, true, by omega, rfl, rfl, rfl, FY, EY.out⟩
          case measure => (simp [intOf]) <;> omega
      subst hi
      have FN : Hid (FromW f t h a p) := Lib.hid (NO.out (AF.2 ⟨rfl, rfl, rfl⟩))
      clear AF
      cases i1
      · skip
        go_wp2_with fail
        refine (J1.out _ (HA.out.kept EE.out) (by omega) (by omega)).mono ?_
        rintro e v1 ⟨rfl, hb⟩
        have E1 := Lib.hid (EE.out.trans (hb.mono EE.out.size))
        clear hb
        have BX := Lib.hid (E1.out.alloc E1.out.size (.cells #[.int .i64 p1, .bool d1] 25))
        have l1 : ∀ (X : World) (g o : Nat), X.heap.size = X.heap.size := fun _ _ _ => rfl
        go_wp2_with fail
        refine (J2.out _ (HB.out.kept BX.out) (by omega) (by omega)).mono ?_
        rintro e v2 ⟨rfl, hb⟩
        have E2 := Lib.hid (BX.out.trans (hb.mono BX.out.size))
        have XB := (Blk.new v1 #[.int .i64 p1, .bool d1] 25).next hb
        have x0 := XB.cell 0; have x1 := XB.cell 1; have xl := XB.lt
        have EY := Lib.hid (E2.out.alloc E2.out.size (.cells #[.int .i64 p1, .bool d1] 25))
        clear hb XB
        go_wp2_with fail
        go_roundw
        case rel => exact ⟨t, a, p, by omega, rfl, rfl, rfl, FN, EY.out⟩
        case measure => (simp [intOf]) <;> omega
      · skip
        go_wp2_with fail
        refine (J1.out _ (HA.out.kept EE.out) (by omega) (by omega)).mono ?_
        rintro e v1 ⟨rfl, hb⟩
        have E1 := Lib.hid (EE.out.trans (hb.mono EE.out.size))
        clear hb
        have BX := Lib.hid (E1.out.alloc E1.out.size (.cells #[.int .i64 p1, .bool d1] 25))
        have l1 : ∀ (X : World) (g o : Nat), X.heap.size = X.heap.size := fun _ _ _ => rfl
        go_wp2_with fail
        refine (J2.out _ (HB.out.kept BX.out) (by omega) (by omega)).mono ?_
        rintro e v2 ⟨rfl, hb⟩
        have E2 := Lib.hid (BX.out.trans (hb.mono BX.out.size))
        have XB := (Blk.new v1 #[.int .i64 p1, .bool d1] 25).next hb
        have x0 := XB.cell 0; have x1 := XB.cell 1; have xl := XB.lt
        have EY := Lib.hid (E2.out.alloc E2.out.size (.cells #[.int .i64 p1, .bool d1] 25))
        clear hb XB
        go_wp2_with fail
        go_roundw
        case rel => exact ⟨t, a, p, by omega, rfl, rfl, rfl, FN, EY.out⟩
        case measure => (simp [intOf]) <;> omega
theorem walk {A B : Option Addr} {c d n m : Nat} {v u : Nat → Nat → Value} {h : Int} {w : World} (hl : n ≤ c) (hm : c ≤ maxLen) (hr : RdV w 4 shLeg A n v) (ha : A = none → c = 0) (hl2 : m ≤ d) (hm2 : d ≤ maxLen) (hr2 : RdV w 4 shLeg B m u) (hb : B = none → d = 0) (hh : (Lit.int .i64 h).wf = true) :
    Calls Try.prog 3 #[.slice A n c, .slice B m d, .int .i64 h] w fun e w' => e = .returned (.bool true) ∧ Below w.heap.size w w' :=
  have hM : maxLen ≤ 9223372036854775807 := by decide
  walk_f A B c d n m _ _ _ _ _ _ _ _ h w (rdL_of hr) (rdL_of hr2) (by omega) (by omega) hl ha hl2 hb (bounds_i64 hh).1

end Go.Proofs.Ytodfjghgcphhhab.diffWays
