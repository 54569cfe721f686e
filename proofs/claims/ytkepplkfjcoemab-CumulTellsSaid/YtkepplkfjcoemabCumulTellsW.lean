/- The walk of CumulTells: it answers true for every input, and leaves all old blocks as they were. No condition. -/
import Derived.Test.YtkepplkfjcoemabRows
import Derived.Test.YtkepplkfjcoemabRowKit
import Derived.Test.YtkepplkfjcoemabSlicesEq
import Derived.Test.YtkepplkfjcoemabSlicesEqM
import Derived.Test.YtkepplkfjcoemabRowL
import Derived.Test.YtkepplkfjcoemabCumulMath
import Derived.Test.YtkepplkfjcoemabCumulA
import Derived.Test.YtkepplkfjcoemabCumulB
import Derived.Test.YtkepplkfjcoemabCumulC
import Derived.Test.YtkepplkfjcoemabSorted
import Derived.Test.YtkepplkfjcoemabCumulS
import Derived.WalkKit
import Derived.ProofKit
import Derived.OpenShut
import Derived.Deep.QuietTactic
import Derived.BigQuiet
import Derived.Lib.SmallJoins
import Derived.Lib.Hide
import Derived.WalkSpells
import Derived.WalkLawsBesides
import Derived.IntWalk
namespace Go.Proofs.Ytkepplkfjcoemab.cumulTells
open Go.ChangeShapes Go.WideShapes Go.ChangeAt Go.RowKit Go.Joins
set_option linter.unusedSimpArgs false
set_option linter.unusedVariables false

theorem wrap00 : IntKind.u64.wrap 0 = 0 := by rw [IntKind.wrap_u64]; rfl
/-- how many words mean n, of the first k places -/
def wtV (zs : List Int) (n : Int) (k : Nat) : Int := if 0 ≤ n ∧ n < k then shN zs n.toNat else 0
theorem wt_hit {zs : List Int} {n : Int} {k : Nat} (h : (k : Int) = n) : wtV zs n (k + 1) = shN zs k := by
  unfold wtV; rw [if_pos (by omega), ← h, Int.toNat_natCast]
theorem wt_miss {zs : List Int} {n : Int} {k : Nat} (h : (k : Int) ≠ n) : wtV zs n (k + 1) = wtV zs n k := by
  unfold wtV
  by_cases h1 : 0 ≤ n ∧ n < k
  · rw [if_pos h1, if_pos (by omega)]
  · rw [if_neg h1, if_neg (by omega)]
theorem wt_all (zs : List Int) (n : Int) : wtV zs n zs.length = shV zs n := rfl
theorem wt_none (zs : List Int) (n : Int) : wtV zs n 0 = 0 := if_neg (by omega)
/-- the calls behind the loop -/
structure Rest (A : Option Addr) (c m : Nat) (n : Int) (r : Bool) (s t : Int) (w : World) : Prop where
  hR : ∀ q, Calls Try.prog 28 #[.slice A m c] (w.drewN q) fun e w' => e = .returned (.bool r) ∧ ∃ q', w' = w.drewN q'
  hQ : ∀ q, Calls Try.prog 29 #[.slice A m c] (w.drewN q) fun e w' => e = .returned (.bool r) ∧ ∃ q', w' = w.drewN q'
  hS : ∀ q, Calls Try.prog 30 #[.slice A m c, .int .i64 n] (w.drewN q) fun e w' => e = .returned (.int .u64 s) ∧ ∃ q', w' = w.drewN q'
  hM : ∀ q, Calls Try.prog 31 #[.slice A m c] (w.drewN q) fun e w' => e = .returned (.int .u64 t) ∧ ∃ q', w' = w.drewN q'
theorem to_w {P : Program} {f : FuncId} {args : Array Value} {w : World} {q : Nat} {v : Value} (h : Calls P f args (w.drewN q) fun e w' => e = .returned v ∧ ∃ k, w' = (w.drewN q).drewN k) : Calls P f args (w.drewN q) fun e w' => e = .returned v ∧ ∃ k, w' = w.drewN k :=
  h.mono fun _ _ ⟨a, k, b⟩ => ⟨a, q + k, by rw [b, World.drewN_drewN]⟩
theorem rest_of (A : Option Addr) (c : Nat) (zs : List Int) (n : Int) (w : World) (hr : RdI w .u64 A zs) (hl : zs.length ≤ 1000) : Rest A c zs.length n (rightV zs) (shV zs n) (mnV zs zs.length) w :=
  ⟨fun q => to_w (right_any A c zs (w.drewN q) hr hl), fun q => to_w (rright_any A c zs (w.drewN q) hr hl), fun q => to_w (share_any A c zs n (w.drewN q) hr hl), fun q => to_w (mean_any A c zs (w.drewN q) hr hl)⟩
theorem at_zero {P : Program} {f : FuncId} {args : Array Value} {w : World} {R : Ending → World → Prop} (h : Calls P f args (w.drewN 0) R) : Calls P f args w R := h
set_option maxHeartbeats 1000000 in
theorem walk_none (A : Option Addr) (c : Nat) (n : Int) (r : Bool) (w : World) (H : Rest A c 0 n r 0 0 w) :
    Calls Try.prog 6 #[.slice A 0 c, .int .i64 n] w fun e w' => e = .returned (.bool true) ∧ Below w.heap.size w w' := by
  go_enter Try.func6, Try.ntmps6
  go_wp2_with fail
  go_loop [5, 6, 7] (fun a b i => a = .int .u64 0 ∧ b = .int .u64 0 ∧ i = .int .i64 0) (fun _ _ i => 0)
  case atStart => exact ⟨rfl, rfl, rfl⟩
  case round =>
    obtain ⟨rfl, rfl, rfl⟩ := hrel
    go_wp2_with fail
    refine (at_zero (H.hR 0)).mono ?_
    rintro e w' ⟨rfl, q1, rfl⟩
    go_wp2_with fail
    refine (H.hQ q1).mono ?_
    rintro e w' ⟨rfl, q2, rfl⟩
    go_wp2_with fail
    refine (H.hS q2).mono ?_
    rintro e w' ⟨rfl, q3, rfl⟩
    go_wp2_with fail
    refine (H.hM q3).mono ?_
    rintro e w' ⟨rfl, q4, rfl⟩
    go_wp2_with fail
    refine (cualive _).mono ?_
    rintro e w1 ⟨rfl, hb⟩
    go_wp2_with fail
    go_ret
    exact ⟨rfl, (below_drewN (Below.refl _ _) q4).trans (hb.mono (Nat.le_refl _))⟩
set_option maxRecDepth 100000 in
set_option maxHeartbeats 2000000 in
theorem walk_some (b off c : Nat) (zs : List Int) (n : Int) (r : Bool) (t : Int) (w : World) (hr : RdI w .u64 (some ⟨b, off, none⟩) zs) (h0 : 0 < zs.length) (hl : zs.length ≤ 200) (ht : mnV zs zs.length = t) (H : Rest (some ⟨b, off, none⟩) c zs.length n r (shV zs n) t w) :
    Calls Try.prog 6 #[.slice (some ⟨b, off, none⟩) zs.length c, .int .i64 n] w fun e w' => e = .returned (.bool true) ∧ Below w.heap.size w w' := by
  obtain ⟨b', o', e, _, hc⟩ := rdI_row hr h0
  cases e
  have HC := Lib.hid hc
  have HH := Lib.hid H
  have M0 : Hid (mnV zs 0 = 0) := Lib.hid rfl
  have MS := Lib.hid (mnV_succ zs)
  have W0 := Lib.hid (wt_none zs n)
  have WA := Lib.hid (wt_all zs n)
  have MT := Lib.hid ht
  clear hr hc H ht
  go_enter Try.func6, Try.ntmps6
  go_wp2_with fail
  go_loop [5, 6, 7] (fun a b i => ∃ k : Nat, k ≤ zs.length ∧ i = .int .i64 k ∧ a = .int .u64 (wtV zs n k) ∧ b = .int .u64 (mnV zs k)) (fun _ _ i => zs.length - (intOf i).toNat)
  case atStart => exact ⟨0, by omega, rfl, by rw [W0.out], by rw [M0.out]⟩
  case round =>
    obtain ⟨k, hk, rfl, rfl, rfl⟩ := hrel
    by_cases h : k < zs.length
    · have E := Lib.hid (MS.out k)
      obtain ⟨y, hy⟩ : ∃ y, mnV zs k = y := ⟨_, rfl⟩
      obtain ⟨x, hx⟩ : ∃ x, shN zs k = x := ⟨_, rfl⟩
      have hxx := Lib.hid hx
      rw [hx, hy] at E
      rw [hy]
      clear hy
      by_cases hn : (k : Int) = n
      · skip
        have WT := Lib.hid ((wt_hit (zs := zs) hn).trans hx)
        obtain ⟨z, hz⟩ : ∃ z, wtV zs n k = z := ⟨_, rfl⟩
        rw [hz]
        clear hz
        rcases k with _ | j
        · have c1 : w.cell? ⟨b, off, none⟩ = some (.int .u64 (zat zs 0)) := by simpa using HC.out 0 h
          rw [show zat zs 0 = x from hx] at c1
          have hq : ((0 : Int) == n) = true := by rw [beq_iff_eq]; simpa using hn
          clear hx hn
          go_wp2_with fail
          go_round
          case rel => exact ⟨1, by omega, by go_num, by rw [WT.out], by rw [E.out]; simp [wrap00]⟩
          case measure => simp [intOf]; omega
        · have c1 := HC.out (j + 1) h
          have c2 := HC.out j (by omega)
          have hx' : IntKind.u64.wrap (zat zs (j + 1) - zat zs j) = x := hx
          have i2 : (0 : Int) ≤ (j : Int) + 1 := by omega
          have i3 : ((j : Int) + 1).toNat = j + 1 := by omega
          have i5 : j < zs.length := by omega
          have w1 : IntKind.i64.wrap (j : Int) = j := IntWalk.i64_in _ (by omega)
          have hq : (((j : Int) + 1) == n) = true := by rw [beq_iff_eq]; simpa using hn
          clear hx hn
          go_wp2_with fail
          go_round
          case rel => exact ⟨j + 1 + 1, by omega, by go_num, by rw [WT.out], by rw [E.out]; simp⟩
          case measure => simp [intOf]; omega
      · skip
        have WT := Lib.hid (wt_miss (zs := zs) hn)
        obtain ⟨z, hz⟩ : ∃ z, wtV zs n k = z := ⟨_, rfl⟩
        rw [hz] at WT
        rw [hz]
        clear hz
        rcases k with _ | j
        · have c1 : w.cell? ⟨b, off, none⟩ = some (.int .u64 (zat zs 0)) := by simpa using HC.out 0 h
          rw [show zat zs 0 = x from hx] at c1
          have hq : ((0 : Int) == n) = false := by rw [beq_eq_false_iff_ne]; simpa using hn
          clear hx hn
          go_wp2_with fail
          go_round
          case rel => exact ⟨1, by omega, by go_num, by rw [WT.out], by rw [E.out]; simp [wrap00]⟩
          case measure => simp [intOf]; omega
        · have c1 := HC.out (j + 1) h
          have c2 := HC.out j (by omega)
          have hx' : IntKind.u64.wrap (zat zs (j + 1) - zat zs j) = x := hx
          have i2 : (0 : Int) ≤ (j : Int) + 1 := by omega
          have i3 : ((j : Int) + 1).toNat = j + 1 := by omega
          have i5 : j < zs.length := by omega
          have w1 : IntKind.i64.wrap (j : Int) = j := IntWalk.i64_in _ (by omega)
          have hq : (((j : Int) + 1) == n) = false := by rw [beq_eq_false_iff_ne]; simpa using hn
          clear hx hn
          go_wp2_with fail
          go_round
          case rel => exact ⟨j + 1 + 1, by omega, by go_num, by rw [WT.out], by rw [E.out]; simp⟩
          case measure => simp [intOf]; omega
    · obtain rfl : k = zs.length := by omega
      rw [WA.out, MT.out]
      obtain ⟨z, hz⟩ : ∃ z, shV zs n = z := ⟨_, rfl⟩
      have H := HH.out
      rw [hz] at H
      rw [hz]
      have HX := Lib.hid H
      clear hz H
      go_wp2_with fail
      refine (at_zero (HX.out.hR 0)).mono ?_
      rintro e w' ⟨rfl, q1, rfl⟩
      go_wp2_with fail
      refine (HX.out.hQ q1).mono ?_
      rintro e w' ⟨rfl, q2, rfl⟩
      go_wp2_with fail
      refine (HX.out.hS q2).mono ?_
      rintro e w' ⟨rfl, q3, rfl⟩
      go_wp2_with fail
      refine (HX.out.hM q3).mono ?_
      rintro e w' ⟨rfl, q4, rfl⟩
      go_wp2_with fail
      refine (cualive _).mono ?_
      rintro e w1 ⟨rfl, hb⟩
      go_wp2_with fail
      go_ret
      exact ⟨rfl, (below_drewN (Below.refl _ _) q4).trans (hb.mono (Nat.le_refl _))⟩
set_option maxHeartbeats 1000000 in
theorem walk_big (A : Option Addr) (c m : Nat) (n : Int) (w : World) (h : 200 < m) :
    Calls Try.prog 6 #[.slice A m c, .int .i64 n] w fun e w' => e = .returned (.bool true) ∧ Below w.heap.size w w' := by
  go_enter Try.func6, Try.ntmps6
  go_wp2_with fail
  go_ret
  exact ⟨rfl, Below.refl _ _⟩
theorem walk {A : Option Addr} {c : Nat} {zs : List Int} {n : Int} (hlc : zs.length ≤ c) (hm : c ≤ maxLen) {w : World} (hr : RdI w .u64 A zs) (hn : (Lit.int .i64 n).wf = true) :
    Calls Try.prog 6 #[.slice A zs.length c, .int .i64 n] w fun e w' => e = .returned (.bool true) ∧ Below w.heap.size w w' := by
  by_cases h : zs.length ≤ 200
  · have H := rest_of A c zs n w hr (by omega)
    by_cases h0 : zs.length = 0
    · have e1 : mnV zs zs.length = 0 := by rw [h0]; rfl
      have e2 : shV zs n = 0 := shV_out (by omega)
      rw [e1, e2, h0] at H
      rw [h0]
      exact walk_none A c n _ w H
    · obtain ⟨b, off, rfl, _⟩ := rdI_row hr (by omega)
      exact walk_some b off c zs n _ _ w hr (by omega) h rfl H
  · exact walk_big A c zs.length n w (by omega)

end Go.Proofs.Ytkepplkfjcoemab.cumulTells
