/- The walk of ObserveKinds: it answers true for every input, and leaves all old blocks as they were. No condition. -/
import Derived.Test.YtodfjghgcphhhabRows
import Derived.Test.YtodfjghgcphhhabRowKit
import Derived.Test.YtodfjghgcphhhabRowS
import Derived.Test.YtodfjghgcphhhabRowZ
import Derived.Test.YtodfjghgcphhhabSlicesEq
import Derived.Test.YtodfjghgcphhhabBlocks
import Derived.Test.YtodfjghgcphhhabAtKit
import Derived.Test.YtodfjghgcphhhabMapInc
import Derived.Test.YtodfjghgcphhhabObsA
import Derived.Test.YtodfjghgcphhhabObsB
import Derived.WalkKit
import Derived.ProofKit
import Derived.OpenShut
import Derived.Deep.QuietTactic
import Derived.BigQuiet
import Derived.Lib.SmallJoins
import Derived.Lib.Hide
import Derived.WalkSpells
import Derived.WalkLawsBesides
import Derived.OwnWalk
import Derived.BigRegion
import Derived.Deep.LoopGhost
import Derived.Deep.RegionHeld3
import Derived.IntWalk
namespace Go.Proofs.Ytodfjghgcphhhab.observeKinds
open Go.ChangeShapes Go.WideShapes Go.ChangeAt Go.RowKit Go.Joins
set_option linter.unusedSimpArgs false
set_option linter.unusedVariables false

theorem like_4 {f t n : Int} (h0 : n ≠ 0) (h : f + f + t + t < n) : likeV f t n = 4 := by unfold likeV; rw [if_neg h0, if_pos (by omega)]
theorem like_1 {f t n : Int} (h0 : n ≠ 0) (h : ¬ f + f + t + t < n) (h1 : 3 * n ≤ 4 * f) : likeV f t n = 1 := by unfold likeV; rw [if_neg h0, if_neg (by omega), if_pos h1]
theorem like_3 {f t n : Int} (h0 : n ≠ 0) (h : ¬ f + f + t + t < n) (h1 : ¬ 3 * n ≤ 4 * f) (h2 : 3 * n ≤ 4 * t) : likeV f t n = 3 := by unfold likeV; rw [if_neg h0, if_neg (by omega), if_neg h1, if_pos h2]
theorem like_2 {f t n : Int} (h0 : n ≠ 0) (h : ¬ f + f + t + t < n) (h1 : ¬ 3 * n ≤ 4 * f) (h2 : ¬ 3 * n ≤ 4 * t) : likeV f t n = 2 := by unfold likeV; rw [if_neg h0, if_neg (by omega), if_neg h1, if_neg h2]
set_option maxRecDepth 100000 in
set_option maxHeartbeats 8000000 in
theorem walk_f (A : Option Addr) (c n : Nat) (z : Nat → Nat → Int) (w : World) (hr : RdZ w 7 A n z) (hl : n ≤ 9223372036854775807) :
    Calls Try.prog 4 #[.slice A n c] w fun e w' => e = .returned (.bool true) ∧ Below w.heap.size w w' := by
  have HR := Lib.hid hr
  have AL := Lib.hid alive58
  by_cases g1 : 100 < n
  · have gi : (100 : Int) < (n : Int) := by omega
    clear hr
    go_enter Try.func4, Try.ntmps4
    go_wp2_with fail
    go_ret
    exact ⟨rfl, Below.refl _ _⟩
  have gi : ¬ (100 : Int) < (n : Int) := by omega
  have hn : n ≤ 100 := by omega
  have KK := Lib.hid (fun W hr => kind_any A c n z W hr hn)
  have KL := Lib.hid (fun W hr => like_any A c n z W hr hn)
  have bdn := ft_bd z n
  obtain ⟨F, hF⟩ : ∃ F, frN z n = F := ⟨_, rfl⟩
  obtain ⟨G, hG⟩ : ∃ F, toN z n = F := ⟨_, rfl⟩
  have HF := Lib.hid hF; have HG := Lib.hid hG
  rw [hF, hG] at KK bdn
  rw [hF, hG] at KL
  clear hr hl g1 hF hG
  go_enter Try.func4, Try.ntmps4
  go_wp2_with fail
  go_loopw [3, 4, 5] (fun f t i wr => ∃ k : Nat, k ≤ n ∧ i = .int .i64 k ∧ f = .int .i64 (frN z k) ∧ t = .int .i64 (toN z k) ∧ wr = w) (fun _ _ i _ => n - (intOf i).toNat)
  case atStart => exact ⟨0, by omega, rfl, rfl, rfl, rfl⟩
  case round =>
    obtain ⟨k, hk, rfl, rfl, rfl, hw⟩ := hrel
    have hw' := hw.symm; clear hw; subst hw'
    by_cases h : k < n
    · obtain ⟨b, o, rfl, hbl, hcell⟩ := rdZ_row HR.out (by omega) (by omega)
      have c2 : w.cell? ⟨b, o + k * 7 + 2, none⟩ = _ := hcell k 2 h (by omega)
      have c3 : w.cell? ⟨b, o + k * 7 + 3, none⟩ = _ := hcell k 3 h (by omega)
      have bd := ft_bd z k
      have fs := frN_succ z k; have ts := toN_succ z k
      obtain ⟨f, hf⟩ : ∃ f, frN z k = f := ⟨_, rfl⟩
      obtain ⟨t, ht⟩ : ∃ f, toN z k = f := ⟨_, rfl⟩
      rw [hf, ht] at bd
      rw [hf] at fs ⊢
      rw [ht] at ts ⊢
      obtain ⟨z2, hz2⟩ : ∃ q, z k 2 = q := ⟨_, rfl⟩
      obtain ⟨z3, hz3⟩ : ∃ q, z k 3 = q := ⟨_, rfl⟩
      rw [hz2] at fs ts c2
      rw [hz3] at ts c3
      have w1 : IntKind.i64.wrap (f + 1) = f + 1 := IntWalk.i64_in _ (by omega)
      have w2 : IntKind.i64.wrap (t + 1) = t + 1 := IntWalk.i64_in _ (by omega)
      clear hf ht hz2 hz3 hcell
      by_cases e2 : z2 = 0
      · subst e2
        rw [if_pos rfl] at fs ts
        have FS := Lib.hid fs; have TS := Lib.hid ts
        clear fs ts
        go_wp2_with fail
        go_roundw
        case rel => exact ⟨k + 1, by omega, by go_num, by rw [FS.out], by rw [TS.out], by first | rfl | trivial⟩
        case measure => (simp [intOf]) <;> omega
      · rw [if_neg e2] at fs ts
        have n2 : (z2 == 0) = false := by simpa using e2
        have FS := Lib.hid fs
        by_cases e3 : z3 = 0
        · subst e3
          rw [if_pos rfl] at ts
          have TS := Lib.hid ts
          clear fs ts e2
          go_wp2_with fail
          go_roundw
          case rel => exact ⟨k + 1, by omega, by go_num, by rw [FS.out], by rw [TS.out], by first | rfl | trivial⟩
          case measure => (simp [intOf]) <;> omega
        · rw [if_neg e3] at ts
          have n3 : (z3 == 0) = false := by simpa using e3
          have TS := Lib.hid ts
          clear fs ts e2 e3
          go_wp2_with fail
          go_roundw
          case rel => exact ⟨k + 1, by omega, by go_num, by rw [FS.out], by rw [TS.out], by first | rfl | trivial⟩
          case measure => (simp [intOf]) <;> omega
    · obtain rfl : n = k := by omega
      rw [HF.out, HG.out]
      by_cases h0 : n = 0
      · subst h0
        have e0 : ∀ x, kindV x ((0 : Nat) : Int) = 0 := fun x => by unfold kindV; simp
        have e1 : likeV F G ((0 : Nat) : Int) = 0 := by unfold likeV; simp
        rw [e0, e0, e0] at KK
        rw [e1] at KL
        go_wp2_with fail
        refine (KK.out _ HR.out).mono ?_
        rintro e v1 ⟨rfl, hb⟩
        have R1 := Lib.hid (RdZ.kept HR.out hb); have E1 := Lib.hid hb
        clear hb
        go_wp2_with fail
        refine (KL.out _ R1.out).mono ?_
        rintro e v2 ⟨rfl, hb⟩
        have E2 := Lib.hid (E1.out.trans (hb.mono E1.out.size))
        clear hb
        go_wp2_with fail
        refine (AL.out _).mono ?_
        rintro e v3 ⟨rfl, hb⟩
        have E3 := Lib.hid (E2.out.trans (hb.mono E2.out.size))
        clear hb
        go_wp2_with fail
        first | exact ⟨rfl, E3.out⟩ | (go_ret; exact ⟨rfl, E3.out⟩)
      · have e0 : ∀ x, kindV x (n : Int) = shV x n := fun x => by unfold kindV; rw [if_neg (by omega)]
        rw [e0, e0, e0] at KK
        have q1 := shV_bd (x := F) (n := n) (by omega) (by omega) (by omega)
        have q2 := shV_bd (x := G) (n := n) (by omega) (by omega) (by omega)
        have q3 := shV_bd (x := n - F - G) (n := n) (by omega) (by omega) (by omega)
        have r1 : (1000 * F).tdiv n = shV F n := by unfold shV; rw [Int.mul_comm]
        have r2 : (1000 * G).tdiv n = shV G n := by unfold shV; rw [Int.mul_comm]
        have r3 : (1000 * ((n : Int) - F - G)).tdiv n = shV (n - F - G) n := by unfold shV; rw [Int.mul_comm]
        obtain ⟨s1, hs1⟩ : ∃ q, shV F n = q := ⟨_, rfl⟩
        obtain ⟨s2, hs2⟩ : ∃ q, shV G n = q := ⟨_, rfl⟩
        obtain ⟨s3, hs3⟩ : ∃ q, shV ((n : Int) - F - G) n = q := ⟨_, rfl⟩
        rw [hs1] at q1 r1 KK; rw [hs2] at q2 r2 KK; rw [hs3] at q3 r3 KK
        have w1 : IntKind.i64.wrap (1000 * F) = 1000 * F := IntWalk.i64_in _ (by omega)
        have w2 : IntKind.i64.wrap (1000 * G) = 1000 * G := IntWalk.i64_in _ (by omega)
        have w3 : IntKind.i64.wrap ((n : Int) - F) = n - F := IntWalk.i64_in _ (by omega)
        have w4 : IntKind.i64.wrap ((n : Int) - F - G) = n - F - G := IntWalk.i64_in _ (by omega)
        have w5 : IntKind.i64.wrap (1000 * ((n : Int) - F - G)) = 1000 * (n - F - G) := IntWalk.i64_in _ (by omega)
        have w6 : IntKind.i64.wrap s1 = s1 := IntWalk.i64_in _ (by omega)
        have w7 : IntKind.i64.wrap s2 = s2 := IntWalk.i64_in _ (by omega)
        have w8 : IntKind.i64.wrap s3 = s3 := IntWalk.i64_in _ (by omega)
        have w9 : IntKind.i64.wrap (F + F) = F + F := IntWalk.i64_in _ (by omega)
        have wa : IntKind.i64.wrap (F + F + G) = F + F + G := IntWalk.i64_in _ (by omega)
        have wb : IntKind.i64.wrap (F + F + G + G) = F + F + G + G := IntWalk.i64_in _ (by omega)
        have wc : IntKind.i64.wrap (4 * F) = 4 * F := IntWalk.i64_in _ (by omega)
        have wd : IntKind.i64.wrap (3 * (n : Int)) = 3 * n := IntWalk.i64_in _ (by omega)
        have we : IntKind.i64.wrap (4 * G) = 4 * G := IntWalk.i64_in _ (by omega)
        have nz : ¬ ((n : Int) = 0) := by omega
        have nb : ((n : Int) == 0) = false := by simp; omega
        clear hs1 hs2 hs3 e0 q1 q2 q3 bdn h0
        go_wp2_with fail
        refine (KK.out _ HR.out).mono ?_
        rintro e v1 ⟨rfl, hb⟩
        have R1 := Lib.hid (RdZ.kept HR.out hb); have E1 := Lib.hid hb
        clear hb
        by_cases h1 : F + F + G + G < n
        · rw [like_4 nz h1] at KL
          have d1 : decide (F + F + G + G < (n : Int)) = true := decide_eq_true h1
          clear nz
          have nz : ¬ ((n : Int) = 0) := by intro q; rw [q] at nb; simp at nb
          go_wp2_with fail
          refine (KL.out _ R1.out).mono ?_
          rintro e v2 ⟨rfl, hb⟩
          have E2 := Lib.hid (E1.out.trans (hb.mono E1.out.size))
          clear hb
          go_wp2_with fail
          refine (AL.out _).mono ?_
          rintro e v3 ⟨rfl, hb⟩
          have E3 := Lib.hid (E2.out.trans (hb.mono E2.out.size))
          clear hb
          go_wp2_with fail
          first | exact ⟨rfl, E3.out⟩ | (go_ret; exact ⟨rfl, E3.out⟩)
        · have d1 : decide (F + F + G + G < (n : Int)) = false := decide_eq_false h1
          by_cases h2 : 3 * (n : Int) ≤ 4 * F
          · rw [like_1 nz h1 h2] at KL
            have d2 : decide (3 * (n : Int) ≤ 4 * F) = true := decide_eq_true h2
            go_wp2_with fail
            refine (KL.out _ R1.out).mono ?_
            rintro e v2 ⟨rfl, hb⟩
            have E2 := Lib.hid (E1.out.trans (hb.mono E1.out.size))
            clear hb
            go_wp2_with fail
            refine (AL.out _).mono ?_
            rintro e v3 ⟨rfl, hb⟩
            have E3 := Lib.hid (E2.out.trans (hb.mono E2.out.size))
            clear hb
            go_wp2_with fail
            first | exact ⟨rfl, E3.out⟩ | (go_ret; exact ⟨rfl, E3.out⟩)
          · have d2 : decide (3 * (n : Int) ≤ 4 * F) = false := decide_eq_false h2
            by_cases h3 : 3 * (n : Int) ≤ 4 * G
            · rw [like_3 nz h1 h2 h3] at KL
              have d3 : decide (3 * (n : Int) ≤ 4 * G) = true := decide_eq_true h3
              go_wp2_with fail
              refine (KL.out _ R1.out).mono ?_
              rintro e v2 ⟨rfl, hb⟩
              have E2 := Lib.hid (E1.out.trans (hb.mono E1.out.size))
              clear hb
              go_wp2_with fail
              refine (AL.out _).mono ?_
              rintro e v3 ⟨rfl, hb⟩
              have E3 := Lib.hid (E2.out.trans (hb.mono E2.out.size))
              clear hb
              go_wp2_with fail
              first | exact ⟨rfl, E3.out⟩ | (go_ret; exact ⟨rfl, E3.out⟩)
            · rw [like_2 nz h1 h2 h3] at KL
              have d3 : decide (3 * (n : Int) ≤ 4 * G) = false := decide_eq_false h3
              go_wp2_with fail
              refine (KL.out _ R1.out).mono ?_
              rintro e v2 ⟨rfl, hb⟩
              have E2 := Lib.hid (E1.out.trans (hb.mono E1.out.size))
              clear hb
              go_wp2_with fail
              refine (AL.out _).mono ?_
              rintro e v3 ⟨rfl, hb⟩
              have E3 := Lib.hid (E2.out.trans (hb.mono E2.out.size))
              clear hb
              go_wp2_with fail
              first | exact ⟨rfl, E3.out⟩ | (go_ret; exact ⟨rfl, E3.out⟩)
theorem walk {A : Option Addr} {c n : Nat} {z : Nat → Nat → Int} {w : World} (hl : n ≤ c) (hm : c ≤ maxLen) (hr : RdZ w 7 A n z) (_ : A = none → c = 0) :
    Calls Try.prog 4 #[.slice A n c] w fun e w' => e = .returned (.bool true) ∧ Below w.heap.size w w' :=
  walk_f A c n z w hr (by have : maxLen ≤ 9223372036854775807 := by decide
                          omega)

end Go.Proofs.Ytodfjghgcphhhab.observeKinds
