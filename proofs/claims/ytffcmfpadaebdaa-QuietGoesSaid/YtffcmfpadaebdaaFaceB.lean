/- Which way a car faces, whether it stops, what it sees. -/
import Derived.Test.YtffcmfpadaebdaaRows
import Derived.Test.YtffcmfpadaebdaaKitM
import Derived.Test.YtffcmfpadaebdaaBitM
import Derived.Test.YtffcmfpadaebdaaCarM
import Derived.WalkKit
import Derived.DeepKeys
import Derived.Deep.LoopGhost
import Derived.IntWalk
import Derived.Lib.Hide
import Derived.WalkSpells
import Derived.WalkLawsBesides
import Derived.Laws.CopyOwn
import Derived.Deep.QuietTactic
import Derived.Deep.RegionHeld3
import Derived.BigQuiet
import Derived.BigRegion
namespace Go.Proofs.Ytffcmfpadaebdaa
open Go.RowKit
set_option linter.unusedSimpArgs false
set_option linter.unusedVariables false
theorem Blk.six {w : World} {g : Nat} {t : TypeId} {a b c d e f : Value} (h : Blk w g t #[a, b, c, d, e, f]) : w.cell? ⟨g, 0, none⟩ = some a ∧ w.cell? ⟨g, 1, none⟩ = some b ∧ w.cell? ⟨g, 2, none⟩ = some c ∧ w.cell? ⟨g, 3, none⟩ = some d ∧ w.cell? ⟨g, 4, none⟩ = some e ∧ w.cell? ⟨g, 5, none⟩ = some f :=
  ⟨h.cell 0, h.cell 1, h.cell 2, h.cell 3, h.cell 4, h.cell 5⟩
theorem idx2_0 (a b : Int) (w : World) : (Instr.index 77 (.agg #[.int .i64 a, .int .i64 b]) (.int .i64 0)).run Try.prog w = .ok (.int .i64 a) w := by kernel_rfl
theorem idx2_1 (a b : Int) (w : World) : (Instr.index 77 (.agg #[.int .i64 a, .int .i64 b]) (.int .i64 1)).run Try.prog w = .ok (.int .i64 b) w := by kernel_rfl
/-- which way a car faces that went in no direction -/
def bgF (W U D : Nat → Bool) (f : Int) : Int := if callF U D f 1 then 1 else if callF U D f (-1) then -1 else if neF (byF W f 1) then 1 else if neF (byF W f (-1)) then -1 else 0
/-- which way it faces -/
def ofWay (W U D : Nat → Bool) (f d : Int) : Int :=
  if d = 0 then bgF W U D f else if callF U D f d || neF (byF W f d) then d else if callF U D f (othF d) || neF (byF W f (othF d)) then othF d else 0
/-- does it stop? -/
def stopB (R W U D : Nat → Bool) (f d : Int) : Bool :=
  if hasF R f then true else if d = 0 then callF U D f 1 || callF U D f (-1) else callF U D f d || (callF U D f (othF d) && !neF (byF W f d))
set_option maxRecDepth 100000 in
set_option maxHeartbeats 1000000 in
theorem begin_any (W U D : Nat → Bool) (f : Int) (w : World) : Calls Try.prog 47 #[sgtV W U D, .int .i64 f] w fun e w' => e = .returned (.int .i64 (bgF W U D f)) ∧ Below w.heap.size w w' := by
  have C1 := fun w => scall_any W U D f 1 w
  have C2 := fun w => scall_any W U D f (-1) w
  have Y1 := fun w => sbey_any W U D f 1 w
  have Y2 := fun w => sbey_any W U D f (-1) w
  unfold bgF
  unfold sgtV at C1 C2 Y1 Y2 ⊢
  obtain ⟨w0, hw0⟩ : ∃ x, wordX W = x := ⟨_, rfl⟩
  obtain ⟨w1, hw1⟩ : ∃ x, wordY W = x := ⟨_, rfl⟩
  obtain ⟨u0, hu0⟩ : ∃ x, wordX U = x := ⟨_, rfl⟩
  obtain ⟨u1, hu1⟩ : ∃ x, wordY U = x := ⟨_, rfl⟩
  obtain ⟨d0, hd0⟩ : ∃ x, wordX D = x := ⟨_, rfl⟩
  obtain ⟨d1, hd1⟩ : ∃ x, wordY D = x := ⟨_, rfl⟩
  simp only [hw0, hw1, hu0, hu1, hd0, hd1] at C1 C2 Y1 Y2 ⊢
  obtain ⟨c1, hc1⟩ : ∃ b, callF U D f 1 = b := ⟨_, rfl⟩
  obtain ⟨c2, hc2⟩ : ∃ b, callF U D f (-1) = b := ⟨_, rfl⟩
  obtain ⟨y1, hy1⟩ : ∃ b, neF (byF W f 1) = b := ⟨_, rfl⟩
  obtain ⟨y2, hy2⟩ : ∃ b, neF (byF W f (-1)) = b := ⟨_, rfl⟩
  simp only [hc1, hc2, hy1, hy2] at C1 C2 Y1 Y2 ⊢
  replace C1 := Lib.hid C1
  replace C2 := Lib.hid C2
  replace Y1 := Lib.hid Y1
  replace Y2 := Lib.hid Y2
  clear hw0 hw1 hu0 hu1 hd0 hd1 hc1 hc2 hy1 hy2
  cases c1
  · cases c2
    · cases y1
      · cases y2
        · go_enter Try.func47, Try.ntmps47
          go_wp2_with fail
          have B0 := Blk.new w #[(.int .u64 w0 : Value), .int .u64 w1, .int .u64 u0, .int .u64 u1, .int .u64 d0, .int .u64 d1] 56
          have BE := (Below.refl w.heap.size w).alloc (Nat.le_refl _) (.cells #[(.int .u64 w0 : Value), .int .u64 w1, .int .u64 u0, .int .u64 u1, .int .u64 d0, .int .u64 d1] 56)
          obtain ⟨V, hV⟩ : ∃ V, w.alloc (.cells #[(.int .u64 w0 : Value), .int .u64 w1, .int .u64 u0, .int .u64 u1, .int .u64 d0, .int .u64 d1] 56) = V := ⟨_, rfl⟩
          rw [hV] at B0 BE ⊢
          have S0 := Lib.hid B0
          have E0 := Lib.hid BE
          clear hV B0 BE
          obtain ⟨s0, s1, s2, s3, s4, s5⟩ := S0.out.six
          refine (C1.out _).mono ?_
          rintro e v1 ⟨rfl, hb⟩
          have S1 := Lib.hid (S0.out.next hb)
          have E1 := Lib.hid (E0.out.trans (hb.mono E0.out.size))
          clear hb S0 E0 s0 s1 s2 s3 s4 s5
          obtain ⟨s0, s1, s2, s3, s4, s5⟩ := S1.out.six
          go_wp2_with fail
          refine (C2.out _).mono ?_
          rintro e v2 ⟨rfl, hb⟩
          have S2 := Lib.hid (S1.out.next hb)
          have E2 := Lib.hid (E1.out.trans (hb.mono E1.out.size))
          clear hb S1 E1 s0 s1 s2 s3 s4 s5
          obtain ⟨s0, s1, s2, s3, s4, s5⟩ := S2.out.six
          go_wp2_with fail
          refine (Y1.out _).mono ?_
          rintro e v3 ⟨rfl, hb⟩
          have S3 := Lib.hid (S2.out.next hb)
          have E3 := Lib.hid (E2.out.trans (hb.mono E2.out.size))
          clear hb S2 E2 s0 s1 s2 s3 s4 s5
          obtain ⟨s0, s1, s2, s3, s4, s5⟩ := S3.out.six
          go_wp2_with fail
          refine (Y2.out _).mono ?_
          rintro e v4 ⟨rfl, hb⟩
          have S4 := Lib.hid (S3.out.next hb)
          have E4 := Lib.hid (E3.out.trans (hb.mono E3.out.size))
          clear hb S3 E3 s0 s1 s2 s3 s4 s5
          obtain ⟨s0, s1, s2, s3, s4, s5⟩ := S4.out.six
          go_wp2_with fail
          go_ret
          exact ⟨rfl, E4.out⟩
        · go_enter Try.func47, Try.ntmps47
          go_wp2_with fail
          have B0 := Blk.new w #[(.int .u64 w0 : Value), .int .u64 w1, .int .u64 u0, .int .u64 u1, .int .u64 d0, .int .u64 d1] 56
          have BE := (Below.refl w.heap.size w).alloc (Nat.le_refl _) (.cells #[(.int .u64 w0 : Value), .int .u64 w1, .int .u64 u0, .int .u64 u1, .int .u64 d0, .int .u64 d1] 56)
          obtain ⟨V, hV⟩ : ∃ V, w.alloc (.cells #[(.int .u64 w0 : Value), .int .u64 w1, .int .u64 u0, .int .u64 u1, .int .u64 d0, .int .u64 d1] 56) = V := ⟨_, rfl⟩
          rw [hV] at B0 BE ⊢
          have S0 := Lib.hid B0
          have E0 := Lib.hid BE
          clear hV B0 BE
          obtain ⟨s0, s1, s2, s3, s4, s5⟩ := S0.out.six
          refine (C1.out _).mono ?_
          rintro e v1 ⟨rfl, hb⟩
          have S1 := Lib.hid (S0.out.next hb)
          have E1 := Lib.hid (E0.out.trans (hb.mono E0.out.size))
          clear hb S0 E0 s0 s1 s2 s3 s4 s5
          obtain ⟨s0, s1, s2, s3, s4, s5⟩ := S1.out.six
          go_wp2_with fail
          refine (C2.out _).mono ?_
          rintro e v2 ⟨rfl, hb⟩
          have S2 := Lib.hid (S1.out.next hb)
          have E2 := Lib.hid (E1.out.trans (hb.mono E1.out.size))
          clear hb S1 E1 s0 s1 s2 s3 s4 s5
          obtain ⟨s0, s1, s2, s3, s4, s5⟩ := S2.out.six
          go_wp2_with fail
          refine (Y1.out _).mono ?_
          rintro e v3 ⟨rfl, hb⟩
          have S3 := Lib.hid (S2.out.next hb)
          have E3 := Lib.hid (E2.out.trans (hb.mono E2.out.size))
          clear hb S2 E2 s0 s1 s2 s3 s4 s5
          obtain ⟨s0, s1, s2, s3, s4, s5⟩ := S3.out.six
          go_wp2_with fail
          refine (Y2.out _).mono ?_
          rintro e v4 ⟨rfl, hb⟩
          have S4 := Lib.hid (S3.out.next hb)
          have E4 := Lib.hid (E3.out.trans (hb.mono E3.out.size))
          clear hb S3 E3 s0 s1 s2 s3 s4 s5
          obtain ⟨s0, s1, s2, s3, s4, s5⟩ := S4.out.six
          go_wp2_with fail
          go_ret
          exact ⟨rfl, E4.out⟩
      · go_enter Try.func47, Try.ntmps47
        go_wp2_with fail
        have B0 := Blk.new w #[(.int .u64 w0 : Value), .int .u64 w1, .int .u64 u0, .int .u64 u1, .int .u64 d0, .int .u64 d1] 56
        have BE := (Below.refl w.heap.size w).alloc (Nat.le_refl _) (.cells #[(.int .u64 w0 : Value), .int .u64 w1, .int .u64 u0, .int .u64 u1, .int .u64 d0, .int .u64 d1] 56)
        obtain ⟨V, hV⟩ : ∃ V, w.alloc (.cells #[(.int .u64 w0 : Value), .int .u64 w1, .int .u64 u0, .int .u64 u1, .int .u64 d0, .int .u64 d1] 56) = V := ⟨_, rfl⟩
        rw [hV] at B0 BE ⊢
        have S0 := Lib.hid B0
        have E0 := Lib.hid BE
        clear hV B0 BE
        obtain ⟨s0, s1, s2, s3, s4, s5⟩ := S0.out.six
        refine (C1.out _).mono ?_
        rintro e v1 ⟨rfl, hb⟩
        have S1 := Lib.hid (S0.out.next hb)
        have E1 := Lib.hid (E0.out.trans (hb.mono E0.out.size))
        clear hb S0 E0 s0 s1 s2 s3 s4 s5
        obtain ⟨s0, s1, s2, s3, s4, s5⟩ := S1.out.six
        go_wp2_with fail
        refine (C2.out _).mono ?_
        rintro e v2 ⟨rfl, hb⟩
        have S2 := Lib.hid (S1.out.next hb)
        have E2 := Lib.hid (E1.out.trans (hb.mono E1.out.size))
        clear hb S1 E1 s0 s1 s2 s3 s4 s5
        obtain ⟨s0, s1, s2, s3, s4, s5⟩ := S2.out.six
        go_wp2_with fail
        refine (Y1.out _).mono ?_
        rintro e v3 ⟨rfl, hb⟩
        have S3 := Lib.hid (S2.out.next hb)
        have E3 := Lib.hid (E2.out.trans (hb.mono E2.out.size))
        clear hb S2 E2 s0 s1 s2 s3 s4 s5
        obtain ⟨s0, s1, s2, s3, s4, s5⟩ := S3.out.six
        go_wp2_with fail
        go_ret
        exact ⟨rfl, E3.out⟩
    · go_enter Try.func47, Try.ntmps47
      go_wp2_with fail
      have B0 := Blk.new w #[(.int .u64 w0 : Value), .int .u64 w1, .int .u64 u0, .int .u64 u1, .int .u64 d0, .int .u64 d1] 56
      have BE := (Below.refl w.heap.size w).alloc (Nat.le_refl _) (.cells #[(.int .u64 w0 : Value), .int .u64 w1, .int .u64 u0, .int .u64 u1, .int .u64 d0, .int .u64 d1] 56)
      obtain ⟨V, hV⟩ : ∃ V, w.alloc (.cells #[(.int .u64 w0 : Value), .int .u64 w1, .int .u64 u0, .int .u64 u1, .int .u64 d0, .int .u64 d1] 56) = V := ⟨_, rfl⟩
      rw [hV] at B0 BE ⊢
      have S0 := Lib.hid B0
      have E0 := Lib.hid BE
      clear hV B0 BE
      obtain ⟨s0, s1, s2, s3, s4, s5⟩ := S0.out.six
      refine (C1.out _).mono ?_
      rintro e v1 ⟨rfl, hb⟩
      have S1 := Lib.hid (S0.out.next hb)
      have E1 := Lib.hid (E0.out.trans (hb.mono E0.out.size))
      clear hb S0 E0 s0 s1 s2 s3 s4 s5
      obtain ⟨s0, s1, s2, s3, s4, s5⟩ := S1.out.six
      go_wp2_with fail
      refine (C2.out _).mono ?_
      rintro e v2 ⟨rfl, hb⟩
      have S2 := Lib.hid (S1.out.next hb)
      have E2 := Lib.hid (E1.out.trans (hb.mono E1.out.size))
      clear hb S1 E1 s0 s1 s2 s3 s4 s5
      obtain ⟨s0, s1, s2, s3, s4, s5⟩ := S2.out.six
      go_wp2_with fail
      go_ret
      exact ⟨rfl, E2.out⟩
  · go_enter Try.func47, Try.ntmps47
    go_wp2_with fail
    have B0 := Blk.new w #[(.int .u64 w0 : Value), .int .u64 w1, .int .u64 u0, .int .u64 u1, .int .u64 d0, .int .u64 d1] 56
    have BE := (Below.refl w.heap.size w).alloc (Nat.le_refl _) (.cells #[(.int .u64 w0 : Value), .int .u64 w1, .int .u64 u0, .int .u64 u1, .int .u64 d0, .int .u64 d1] 56)
    obtain ⟨V, hV⟩ : ∃ V, w.alloc (.cells #[(.int .u64 w0 : Value), .int .u64 w1, .int .u64 u0, .int .u64 u1, .int .u64 d0, .int .u64 d1] 56) = V := ⟨_, rfl⟩
    rw [hV] at B0 BE ⊢
    have S0 := Lib.hid B0
    have E0 := Lib.hid BE
    clear hV B0 BE
    obtain ⟨s0, s1, s2, s3, s4, s5⟩ := S0.out.six
    refine (C1.out _).mono ?_
    rintro e v1 ⟨rfl, hb⟩
    have S1 := Lib.hid (S0.out.next hb)
    have E1 := Lib.hid (E0.out.trans (hb.mono E0.out.size))
    clear hb S0 E0 s0 s1 s2 s3 s4 s5
    obtain ⟨s0, s1, s2, s3, s4, s5⟩ := S1.out.six
    go_wp2_with fail
    go_ret
    exact ⟨rfl, E1.out⟩
set_option maxRecDepth 100000 in
set_option maxHeartbeats 2000000 in
theorem ofway_any (W U D : Nat → Bool) (f d : Int) (w : World) : Calls Try.prog 27 #[sgtV W U D, .int .i64 f, .int .i64 d] w fun e w' => e = .returned (.int .i64 (ofWay W U D f d)) ∧ Below w.heap.size w w' := by
  by_cases hd : d = 0
  · subst hd
    have BG := fun w => begin_any W U D f w
    unfold ofWay
    rw [if_pos rfl]
    obtain ⟨r, hr⟩ : ∃ r, bgF W U D f = r := ⟨_, rfl⟩
    unfold sgtV at BG ⊢
    obtain ⟨w0, hw0⟩ : ∃ x, wordX W = x := ⟨_, rfl⟩
    obtain ⟨w1, hw1⟩ : ∃ x, wordY W = x := ⟨_, rfl⟩
    obtain ⟨u0, hu0⟩ : ∃ x, wordX U = x := ⟨_, rfl⟩
    obtain ⟨u1, hu1⟩ : ∃ x, wordY U = x := ⟨_, rfl⟩
    obtain ⟨d0, hd0⟩ : ∃ x, wordX D = x := ⟨_, rfl⟩
    obtain ⟨d1, hd1⟩ : ∃ x, wordY D = x := ⟨_, rfl⟩
    simp only [hw0, hw1, hu0, hu1, hd0, hd1, hr] at BG ⊢
    replace BG := Lib.hid BG
    clear hw0 hw1 hu0 hu1 hd0 hd1 hr
    go_enter Try.func27, Try.ntmps27
    go_wp2_with fail
    have B0 := Blk.new w #[(.int .u64 w0 : Value), .int .u64 w1, .int .u64 u0, .int .u64 u1, .int .u64 d0, .int .u64 d1] 56
    have BE := (Below.refl w.heap.size w).alloc (Nat.le_refl _) (.cells #[(.int .u64 w0 : Value), .int .u64 w1, .int .u64 u0, .int .u64 u1, .int .u64 d0, .int .u64 d1] 56)
    obtain ⟨V, hV⟩ : ∃ V, w.alloc (.cells #[(.int .u64 w0 : Value), .int .u64 w1, .int .u64 u0, .int .u64 u1, .int .u64 d0, .int .u64 d1] 56) = V := ⟨_, rfl⟩
    rw [hV] at B0 BE ⊢
    have S0 := Lib.hid B0
    have E0 := Lib.hid BE
    clear hV B0 BE
    obtain ⟨s0, s1, s2, s3, s4, s5⟩ := S0.out.six
    refine (BG.out _).mono ?_
    rintro e v1 ⟨rfl, hb⟩
    have S1 := Lib.hid (S0.out.next hb)
    have E1 := Lib.hid (E0.out.trans (hb.mono E0.out.size))
    clear hb S0 E0 s0 s1 s2 s3 s4 s5
    obtain ⟨s0, s1, s2, s3, s4, s5⟩ := S1.out.six
    go_wp2_with fail
    go_ret
    exact ⟨rfl, E1.out⟩
  · have C1 := fun w => scall_any W U D f d w
    have C2 := fun w => scall_any W U D f (othF d) w
    have Y1 := fun w => sbey_any W U D f d w
    have Y2 := fun w => sbey_any W U D f (othF d) w
    have OT := fun w => other_any d w
    have hne : d ≠ othF d := by unfold othF; split <;> omega
    unfold ofWay
    rw [if_neg hd]
    obtain ⟨q, hq⟩ : ∃ q, othF d = q := ⟨_, rfl⟩
    unfold sgtV at C1 C2 Y1 Y2 ⊢
    obtain ⟨w0, hw0⟩ : ∃ x, wordX W = x := ⟨_, rfl⟩
    obtain ⟨w1, hw1⟩ : ∃ x, wordY W = x := ⟨_, rfl⟩
    obtain ⟨u0, hu0⟩ : ∃ x, wordX U = x := ⟨_, rfl⟩
    obtain ⟨u1, hu1⟩ : ∃ x, wordY U = x := ⟨_, rfl⟩
    obtain ⟨d0, hd0⟩ : ∃ x, wordX D = x := ⟨_, rfl⟩
    obtain ⟨d1, hd1⟩ : ∃ x, wordY D = x := ⟨_, rfl⟩
    simp only [hw0, hw1, hu0, hu1, hd0, hd1, hq] at C1 C2 Y1 Y2 OT ⊢
    rw [hq] at hne
    obtain ⟨c1, hc1⟩ : ∃ b, callF U D f d = b := ⟨_, rfl⟩
    obtain ⟨c2, hc2⟩ : ∃ b, callF U D f q = b := ⟨_, rfl⟩
    obtain ⟨y1, hy1⟩ : ∃ b, neF (byF W f d) = b := ⟨_, rfl⟩
    obtain ⟨y2, hy2⟩ : ∃ b, neF (byF W f q) = b := ⟨_, rfl⟩
    simp only [hc1, hc2, hy1, hy2] at C1 C2 Y1 Y2 ⊢
    replace C1 := Lib.hid C1
    replace C2 := Lib.hid C2
    replace Y1 := Lib.hid Y1
    replace Y2 := Lib.hid Y2
    replace OT := Lib.hid OT
    have I0 := idx2_0 d q
    have I1 := idx2_1 d q
    clear hw0 hw1 hu0 hu1 hd0 hd1 hc1 hc2 hy1 hy2 hq
    go_enter Try.func27, Try.ntmps27
    go_wp2_with fail
    have B0 := Blk.new w #[(.int .u64 w0 : Value), .int .u64 w1, .int .u64 u0, .int .u64 u1, .int .u64 d0, .int .u64 d1] 56
    have BE := (Below.refl w.heap.size w).alloc (Nat.le_refl _) (.cells #[(.int .u64 w0 : Value), .int .u64 w1, .int .u64 u0, .int .u64 u1, .int .u64 d0, .int .u64 d1] 56)
    obtain ⟨V, hV⟩ : ∃ V, w.alloc (.cells #[(.int .u64 w0 : Value), .int .u64 w1, .int .u64 u0, .int .u64 u1, .int .u64 d0, .int .u64 d1] 56) = V := ⟨_, rfl⟩
    rw [hV] at B0 BE ⊢
    have S0 := Lib.hid B0
    have E0 := Lib.hid BE
    clear hV B0 BE
    obtain ⟨s0, s1, s2, s3, s4, s5⟩ := S0.out.six
    refine (OT.out _).mono ?_
    rintro e v1 ⟨rfl, rfl⟩
    go_wp2_with fail
    go_loopg [18] 2 (fun g i wr => ∃ k : Nat, k ≤ 2 ∧ g = 2 - k ∧ i = .int .i64 k ∧ Hid (Blk wr w.heap.size 56 #[(.int .u64 w0 : Value), .int .u64 w1, .int .u64 u0, .int .u64 u1, .int .u64 d0, .int .u64 d1]) ∧ Hid (Below w.heap.size w wr) ∧ (0 < k → c1 = false ∧ y1 = false) ∧ (1 < k → c2 = false ∧ y2 = false))
    case atStart => exact ⟨0, by omega, rfl, rfl, S0, E0, fun h => absurd h (by omega), fun h => absurd h (by omega)⟩
    case round =>
      obtain ⟨k, hk, rfl, rfl, S0, E0, h1, h2⟩ := hrel
      clear s0 s1 s2 s3 s4 s5
      obtain ⟨s0, s1, s2, s3, s4, s5⟩ := S0.out.six
      rcases (show k = 0 ∨ k = 1 ∨ k = 2 by omega) with rfl | rfl | rfl
      · clear h1 h2
        cases c1
        · cases y1
          · go_wp2_with fail
            refine (C1.out _).mono ?_
            rintro e v1 ⟨rfl, hb⟩
            have S1 := Lib.hid (S0.out.next hb)
            have E1 := Lib.hid (E0.out.trans (hb.mono E0.out.size))
            clear hb S0 E0 s0 s1 s2 s3 s4 s5
            obtain ⟨s0, s1, s2, s3, s4, s5⟩ := S1.out.six
            go_wp2_with fail
            refine (Y1.out _).mono ?_
            rintro e v2 ⟨rfl, hb⟩
            have S2 := Lib.hid (S1.out.next hb)
            have E2 := Lib.hid (E1.out.trans (hb.mono E1.out.size))
            clear hb S1 E1 s0 s1 s2 s3 s4 s5
            obtain ⟨s0, s1, s2, s3, s4, s5⟩ := S2.out.six
            go_wp2_with fail
            go_roundg (2 - (0 + 1))
            case measure => omega
            case rel => exact ⟨0 + 1, by omega, rfl, by go_num, S2, E2, fun _ => by simp, fun h => absurd h (by omega)⟩
          · go_wp2_with fail
            refine (C1.out _).mono ?_
            rintro e v1 ⟨rfl, hb⟩
            have S1 := Lib.hid (S0.out.next hb)
            have E1 := Lib.hid (E0.out.trans (hb.mono E0.out.size))
            clear hb S0 E0 s0 s1 s2 s3 s4 s5
            obtain ⟨s0, s1, s2, s3, s4, s5⟩ := S1.out.six
            go_wp2_with fail
            refine (Y1.out _).mono ?_
            rintro e v2 ⟨rfl, hb⟩
            have S2 := Lib.hid (S1.out.next hb)
            have E2 := Lib.hid (E1.out.trans (hb.mono E1.out.size))
            clear hb S1 E1 s0 s1 s2 s3 s4 s5
            obtain ⟨s0, s1, s2, s3, s4, s5⟩ := S2.out.six
            go_wp2_with fail
            go_ret
            exact ⟨rfl, E2.out⟩
        · go_wp2_with fail
          refine (C1.out _).mono ?_
          rintro e v1 ⟨rfl, hb⟩
          have S1 := Lib.hid (S0.out.next hb)
          have E1 := Lib.hid (E0.out.trans (hb.mono E0.out.size))
          clear hb S0 E0 s0 s1 s2 s3 s4 s5
          obtain ⟨s0, s1, s2, s3, s4, s5⟩ := S1.out.six
          go_wp2_with fail
          go_ret
          exact ⟨rfl, E1.out⟩
      · obtain ⟨rfl, rfl⟩ := h1 (by omega)
        clear h1 h2
        cases c2
        · cases y2
          · go_wp2_with fail
            refine (C2.out _).mono ?_
            rintro e v1 ⟨rfl, hb⟩
            have S1 := Lib.hid (S0.out.next hb)
            have E1 := Lib.hid (E0.out.trans (hb.mono E0.out.size))
            clear hb S0 E0 s0 s1 s2 s3 s4 s5
            obtain ⟨s0, s1, s2, s3, s4, s5⟩ := S1.out.six
            go_wp2_with fail
            refine (Y2.out _).mono ?_
            rintro e v2 ⟨rfl, hb⟩
            have S2 := Lib.hid (S1.out.next hb)
            have E2 := Lib.hid (E1.out.trans (hb.mono E1.out.size))
            clear hb S1 E1 s0 s1 s2 s3 s4 s5
            obtain ⟨s0, s1, s2, s3, s4, s5⟩ := S2.out.six
            go_wp2_with fail
            go_roundg (2 - (1 + 1))
            case measure => omega
            case rel => exact ⟨1 + 1, by omega, rfl, by go_num, S2, E2, fun _ => by simp, fun _ => by simp⟩
          · go_wp2_with fail
            refine (C2.out _).mono ?_
            rintro e v1 ⟨rfl, hb⟩
            have S1 := Lib.hid (S0.out.next hb)
            have E1 := Lib.hid (E0.out.trans (hb.mono E0.out.size))
            clear hb S0 E0 s0 s1 s2 s3 s4 s5
            obtain ⟨s0, s1, s2, s3, s4, s5⟩ := S1.out.six
            go_wp2_with fail
            refine (Y2.out _).mono ?_
            rintro e v2 ⟨rfl, hb⟩
            have S2 := Lib.hid (S1.out.next hb)
            have E2 := Lib.hid (E1.out.trans (hb.mono E1.out.size))
            clear hb S1 E1 s0 s1 s2 s3 s4 s5
            obtain ⟨s0, s1, s2, s3, s4, s5⟩ := S2.out.six
            go_wp2_with fail
            go_ret
            exact ⟨rfl, E2.out⟩
        · go_wp2_with fail
          refine (C2.out _).mono ?_
          rintro e v1 ⟨rfl, hb⟩
          have S1 := Lib.hid (S0.out.next hb)
          have E1 := Lib.hid (E0.out.trans (hb.mono E0.out.size))
          clear hb S0 E0 s0 s1 s2 s3 s4 s5
          obtain ⟨s0, s1, s2, s3, s4, s5⟩ := S1.out.six
          go_wp2_with fail
          go_ret
          exact ⟨rfl, E1.out⟩
      · obtain ⟨rfl, rfl⟩ := h1 (by omega)
        obtain ⟨rfl, rfl⟩ := h2 (by omega)
        clear h1 h2
        go_wp2_with fail
        go_ret
        exact ⟨rfl, E0.out⟩
end Go.Proofs.Ytffcmfpadaebdaa
