/- The walk of VetChecks: it answers true for every input, and leaves all old blocks as they were. No condition. -/
import Derived.Test.YtmdjncknjbjmbaaRows
import Derived.Test.YtmdjncknjbjmbaaRowKit
import Derived.Test.YtmdjncknjbjmbaaRowS
import Derived.Test.YtmdjncknjbjmbaaRowZ
import Derived.Test.YtmdjncknjbjmbaaBlocks
import Derived.Test.YtmdjncknjbjmbaaVetA
import Derived.Test.YtmdjncknjbjmbaaVetB
import Derived.Test.YtmdjncknjbjmbaaVetC
import Derived.Test.YtmdjncknjbjmbaaVetD
import Derived.Test.YtmdjncknjbjmbaaVetE
import Derived.Test.YtmdjncknjbjmbaaVetF
import Derived.Test.YtmdjncknjbjmbaaVetFn
import Derived.Test.YtmdjncknjbjmbaaVetG
import Derived.Test.YtmdjncknjbjmbaaVetH
import Derived.WalkKit
import Derived.ProofKit
import Derived.OpenShut
import Derived.Deep.QuietTactic
import Derived.BigQuiet
import Derived.Lib.SmallJoins
import Derived.Lib.Hide
import Derived.WalkSpells
import Derived.WalkLawsBesides
import Derived.IntWalk
import Derived.Lib.Strings
namespace Go.Proofs.Ytmdjncknjbjmbaa.vetChecks
open Go.ChangeShapes Go.WideShapes Go.ChangeAt Go.RowKit Go.Joins
set_option linter.unusedSimpArgs false
set_option linter.unusedVariables false

theorem nbB_iff (x y : Nat → Int) : ∀ k, nbB x y k = true ↔ ∀ j, j < k → x j = y j
  | 0 => ⟨fun _ j hj => absurd hj (by omega), fun _ => rfl⟩
  | k + 1 => by
    rw [nbB_succ, Bool.and_eq_true, nbB_iff x y k, decide_eq_true_iff]
    constructor
    · rintro ⟨h1, h2⟩ j hj
      by_cases e : j = k
      · rw [e]; exact h2
      · exact h1 j (by omega)
    · intro h; exact ⟨fun j hj => h j (by omega), h k (by omega)⟩
theorem psame_any (s0 s1 s2 s3 s4 s5 s6 s7 s9 s10 s11 s12 t0 t1 t2 t3 t4 t5 t6 t7 t9 t10 t11 t12 : Int) (A B : Option Addr) (n c m d : Nat) (z y : Nat → Nat → Int) (v : Bool) (w : World) (ha : RdZ w 3 A n z) (hb : RdZ w 3 B m y) (hm : n ≤ 9223372036854775807)
    (hy : n = m → sgB z y n = true → s0 = t0 → s1 = t1 → s2 = t2 → s3 = t3 → s4 = t4 → s5 = t5 → s6 = t6 → s7 = t7 → s9 = t9 → s10 = t10 → s11 = t11 → s12 = t12 → v = true) (hn : ¬ ((n = m ∧ sgB z y n = true) ∧ s0 = t0 ∧ s1 = t1 ∧ s2 = t2 ∧ s3 = t3 ∧ s4 = t4 ∧ s5 = t5 ∧ s6 = t6 ∧ s7 = t7 ∧ s9 = t9 ∧ s10 = t10 ∧ s11 = t11 ∧ s12 = t12) → v = false) :
    Calls Try.prog 22 #[(.agg #[.int .i64 s0, .int .i64 s1, .int .i64 s2, .int .i64 s3, .int .i64 s4, .int .i64 s5, .int .i64 s6, .int .i64 s7, .slice A n c, .int .i64 s9, .int .i64 s10, .int .i64 s11, .int .i64 s12]), (.agg #[.int .i64 t0, .int .i64 t1, .int .i64 t2, .int .i64 t3, .int .i64 t4, .int .i64 t5, .int .i64 t6, .int .i64 t7, .slice B m d, .int .i64 t9, .int .i64 t10, .int .i64 t11, .int .i64 t12])] w fun e w' => e = .returned (.bool v) ∧ Below w.heap.size w w' := by
  by_cases h9 : s9 = t9
  · subst h9
    cases hnb : nbB (numV s0 s1 s2 s3 s4 s5 s6 s7 s10 s11 s12) (numV t0 t1 t2 t3 t4 t5 t6 t7 t10 t11 t12) 11
    · have hv : v = false := hn (fun hc => by
        have : nbB (numV s0 s1 s2 s3 s4 s5 s6 s7 s10 s11 s12) (numV t0 t1 t2 t3 t4 t5 t6 t7 t10 t11 t12) 11 = true := (nbB_iff _ _ 11).2 (fun j hj => by
          obtain ⟨_, e0, e1, e2, e3, e4, e5, e6, e7, e9, e10, e11, e12⟩ := hc
          match j, hj with
          | 0, _ => exact e0
          | 1, _ => exact e1
          | 2, _ => exact e2
          | 3, _ => exact e3
          | 4, _ => exact e4
          | 5, _ => exact e5
          | 6, _ => exact e6
          | 7, _ => exact e7
          | 8, _ => exact e10
          | 9, _ => exact e11
          | 10, _ => exact e12)
        rw [hnb] at this; cases this)
      rw [hv]
      exact psame_n s0 s1 s2 s3 s4 s5 s6 s7 s9 s10 s11 s12 t0 t1 t2 t3 t4 t5 t6 t7 t10 t11 t12 A B n c m d z y w hnb ha hb
    · refine psame_s s0 s1 s2 s3 s4 s5 s6 s7 s9 s10 s11 s12 t0 t1 t2 t3 t4 t5 t6 t7 t10 t11 t12 A B n c m d z y w hnb v (fun W hra hrb => ?_) ha hb
      have hall := (nbB_iff _ _ 11).1 hnb
      have e0 : s0 = t0 := hall 0 (by omega)
      have e1 : s1 = t1 := hall 1 (by omega)
      have e2 : s2 = t2 := hall 2 (by omega)
      have e3 : s3 = t3 := hall 3 (by omega)
      have e4 : s4 = t4 := hall 4 (by omega)
      have e5 : s5 = t5 := hall 5 (by omega)
      have e6 : s6 = t6 := hall 6 (by omega)
      have e7 : s7 = t7 := hall 7 (by omega)
      have e10 : s10 = t10 := hall 8 (by omega)
      have e11 : s11 = t11 := hall 9 (by omega)
      have e12 : s12 = t12 := hall 10 (by omega)
      by_cases hnm : n = m
      · subst hnm
        have := seq_same A B n c d z y W hra hrb hm
        cases hs : sgB z y n
        · rw [hn (fun hc => by rw [hs] at hc; cases hc.1.2)]; rwa [hs] at this
        · rw [hy rfl hs e0 e1 e2 e3 e4 e5 e6 e7 rfl e10 e11 e12]; rwa [hs] at this
      · rw [hn (fun hc => hnm hc.1.1)]
        exact seq_len A B n m c d W hnm
  · rw [hn (fun hc => h9 hc.2.2.2.2.2.2.2.2.2.1)]
    exact psame_d s0 s1 s2 s3 s4 s5 s6 s7 s9 s10 s11 s12 t0 t1 t2 t3 t4 t5 t6 t7 t9 t10 t11 t12 A B n c m d z y w h9 ha hb
theorem sgB_self (z : Nat → Nat → Int) : ∀ k, sgB z z k = true
  | 0 => rfl
  | k + 1 => sgB_same (sgB_self z k) rfl rfl rfl
set_option maxHeartbeats 1000000 in
theorem walk_long1 (s0 s1 s2 s3 s4 s5 s6 s7 s9 s10 s11 s12 t0 t1 t2 t3 t4 t5 t6 t7 t9 t10 t11 t12 : Int) (A B : Option Addr) (n c m d : Nat) (w : World) (h : 30 < n) :
    Calls Try.prog 4 #[(.agg #[.int .i64 s0, .int .i64 s1, .int .i64 s2, .int .i64 s3, .int .i64 s4, .int .i64 s5, .int .i64 s6, .int .i64 s7, .slice A n c, .int .i64 s9, .int .i64 s10, .int .i64 s11, .int .i64 s12]), (.agg #[.int .i64 t0, .int .i64 t1, .int .i64 t2, .int .i64 t3, .int .i64 t4, .int .i64 t5, .int .i64 t6, .int .i64 t7, .slice B m d, .int .i64 t9, .int .i64 t10, .int .i64 t11, .int .i64 t12])] w fun e w' => e = .returned (.bool true) ∧ Below w.heap.size w w' := by
  go_enter Try.func4, Try.ntmps4
  go_wp2_with fail
  go_ret
  exact ⟨rfl, ((Below.refl _ _).alloc (Nat.le_refl _) _).alloc (by simp) _⟩
set_option maxHeartbeats 1000000 in
theorem walk_long2 (s0 s1 s2 s3 s4 s5 s6 s7 s9 s10 s11 s12 t0 t1 t2 t3 t4 t5 t6 t7 t9 t10 t11 t12 : Int) (A B : Option Addr) (n c m d : Nat) (w : World) (h0 : n ≤ 30) (h : 30 < m) :
    Calls Try.prog 4 #[(.agg #[.int .i64 s0, .int .i64 s1, .int .i64 s2, .int .i64 s3, .int .i64 s4, .int .i64 s5, .int .i64 s6, .int .i64 s7, .slice A n c, .int .i64 s9, .int .i64 s10, .int .i64 s11, .int .i64 s12]), (.agg #[.int .i64 t0, .int .i64 t1, .int .i64 t2, .int .i64 t3, .int .i64 t4, .int .i64 t5, .int .i64 t6, .int .i64 t7, .slice B m d, .int .i64 t9, .int .i64 t10, .int .i64 t11, .int .i64 t12])] w fun e w' => e = .returned (.bool true) ∧ Below w.heap.size w w' := by
  go_enter Try.func4, Try.ntmps4
  go_wp2_with fail
  go_ret
  exact ⟨rfl, ((Below.refl _ _).alloc (Nat.le_refl _) _).alloc (by simp) _⟩
theorem chain1 {w W0 wA : World} (hb : Below w.heap.size w W0) (hA : Below W0.heap.size W0 wA) : Below w.heap.size w wA := hb.trans (hA.mono hb.size)
set_option maxRecDepth 100000 in
set_option maxHeartbeats 16000000 in
theorem walk_in (s0 s1 s2 s3 s4 s5 s6 s7 s9 s10 s11 s12 t0 t1 t2 t3 t4 t5 t6 t7 t9 t10 t11 t12 : Int) (A B : Option Addr) (n c m d : Nat) (z y : Nat → Nat → Int) (w : World) (h0 : n ≤ 30) (h1 : m ≤ 30) (ha : RdZ w 3 A n z) (hb : RdZ w 3 B m y) (ck : Int) (v : Bool)
    (hc1 : ∀ W, RdZ W 3 A n z → Calls Try.prog 20 #[(.agg #[.int .i64 s0, .int .i64 s1, .int .i64 s2, .int .i64 s3, .int .i64 s4, .int .i64 s5, .int .i64 s6, .int .i64 s7, .slice A n c, .int .i64 s9, .int .i64 s10, .int .i64 s11, .int .i64 s12])] W fun e w' => e = .returned (.int .i64 ck) ∧ Below W.heap.size W w')
    (hc2 : ∀ W, RdZ W 3 A n z → Calls Try.prog 21 #[(.agg #[.int .i64 s0, .int .i64 s1, .int .i64 s2, .int .i64 s3, .int .i64 s4, .int .i64 s5, .int .i64 s6, .int .i64 s7, .slice A n c, .int .i64 s9, .int .i64 s10, .int .i64 s11, .int .i64 s12])] W fun e w' => e = .returned (.int .i64 ck) ∧ Below W.heap.size W w')
    (hs1 : ∀ W, RdZ W 3 A n z → RdZ W 3 B m y → Calls Try.prog 22 #[(.agg #[.int .i64 s0, .int .i64 s1, .int .i64 s2, .int .i64 s3, .int .i64 s4, .int .i64 s5, .int .i64 s6, .int .i64 s7, .slice A n c, .int .i64 s9, .int .i64 s10, .int .i64 s11, .int .i64 s12]), (.agg #[.int .i64 t0, .int .i64 t1, .int .i64 t2, .int .i64 t3, .int .i64 t4, .int .i64 t5, .int .i64 t6, .int .i64 t7, .slice B m d, .int .i64 t9, .int .i64 t10, .int .i64 t11, .int .i64 t12])] W fun e w' => e = .returned (.bool v) ∧ Below W.heap.size W w')
    (hs2 : ∀ W, RdZ W 3 A n z → RdZ W 3 B m y → Calls Try.prog 23 #[(.agg #[.int .i64 s0, .int .i64 s1, .int .i64 s2, .int .i64 s3, .int .i64 s4, .int .i64 s5, .int .i64 s6, .int .i64 s7, .slice A n c, .int .i64 s9, .int .i64 s10, .int .i64 s11, .int .i64 s12]), (.agg #[.int .i64 t0, .int .i64 t1, .int .i64 t2, .int .i64 t3, .int .i64 t4, .int .i64 t5, .int .i64 t6, .int .i64 t7, .slice B m d, .int .i64 t9, .int .i64 t10, .int .i64 t11, .int .i64 t12])] W fun e w' => e = .returned (.bool v) ∧ Below W.heap.size W w')
    (hs3 : ∀ W, RdZ W 3 A n z → Calls Try.prog 22 #[(.agg #[.int .i64 s0, .int .i64 s1, .int .i64 s2, .int .i64 s3, .int .i64 s4, .int .i64 s5, .int .i64 s6, .int .i64 s7, .slice A n c, .int .i64 s9, .int .i64 s10, .int .i64 s11, .int .i64 s12]), (.agg #[.int .i64 s0, .int .i64 s1, .int .i64 s2, .int .i64 s3, .int .i64 s4, .int .i64 s5, .int .i64 s6, .int .i64 s7, .slice A n c, .int .i64 s9, .int .i64 s10, .int .i64 s11, .int .i64 s12])] W fun e w' => e = .returned (.bool true) ∧ Below W.heap.size W w') :
    Calls Try.prog 4 #[(.agg #[.int .i64 s0, .int .i64 s1, .int .i64 s2, .int .i64 s3, .int .i64 s4, .int .i64 s5, .int .i64 s6, .int .i64 s7, .slice A n c, .int .i64 s9, .int .i64 s10, .int .i64 s11, .int .i64 s12]), (.agg #[.int .i64 t0, .int .i64 t1, .int .i64 t2, .int .i64 t3, .int .i64 t4, .int .i64 t5, .int .i64 t6, .int .i64 t7, .slice B m d, .int .i64 t9, .int .i64 t10, .int .i64 t11, .int .i64 t12])] w fun e w' => e = .returned (.bool true) ∧ Below w.heap.size w w' := by
  have C1 := Lib.hid hc1
  have C2 := Lib.hid hc2
  have S1 := Lib.hid hs1
  have S2 := Lib.hid hs2
  have S3 := Lib.hid hs3
  have T0 : Hid (TB (((w.alloc (.cells #[(.int .i64 s0 : Value), .int .i64 s1, .int .i64 s2, .int .i64 s3, .int .i64 s4, .int .i64 s5, .int .i64 s6, .int .i64 s7, .slice A n c, .int .i64 s9, .int .i64 s10, .int .i64 s11, .int .i64 s12] 29)).alloc (.cells #[(.int .i64 t0 : Value), .int .i64 t1, .int .i64 t2, .int .i64 t3, .int .i64 t4, .int .i64 t5, .int .i64 t6, .int .i64 t7, .slice B m d, .int .i64 t9, .int .i64 t10, .int .i64 t11, .int .i64 t12] 29)).drew) w.heap.size #[(.int .i64 s0 : Value), .int .i64 s1, .int .i64 s2, .int .i64 s3, .int .i64 s4, .int .i64 s5, .int .i64 s6, .int .i64 s7, .slice A n c, .int .i64 s9, .int .i64 s10, .int .i64 s11, .int .i64 s12] #[(.int .i64 t0 : Value), .int .i64 t1, .int .i64 t2, .int .i64 t3, .int .i64 t4, .int .i64 t5, .int .i64 t6, .int .i64 t7, .slice B m d, .int .i64 t9, .int .i64 t10, .int .i64 t11, .int .i64 t12]) := Lib.hid (tb_start w #[(.int .i64 s0 : Value), .int .i64 s1, .int .i64 s2, .int .i64 s3, .int .i64 s4, .int .i64 s5, .int .i64 s6, .int .i64 s7, .slice A n c, .int .i64 s9, .int .i64 s10, .int .i64 s11, .int .i64 s12] #[(.int .i64 t0 : Value), .int .i64 t1, .int .i64 t2, .int .i64 t3, .int .i64 t4, .int .i64 t5, .int .i64 t6, .int .i64 t7, .slice B m d, .int .i64 t9, .int .i64 t10, .int .i64 t11, .int .i64 t12] 29 29)
  have B0 : Hid (Below w.heap.size w (((w.alloc (.cells #[(.int .i64 s0 : Value), .int .i64 s1, .int .i64 s2, .int .i64 s3, .int .i64 s4, .int .i64 s5, .int .i64 s6, .int .i64 s7, .slice A n c, .int .i64 s9, .int .i64 s10, .int .i64 s11, .int .i64 s12] 29)).alloc (.cells #[(.int .i64 t0 : Value), .int .i64 t1, .int .i64 t2, .int .i64 t3, .int .i64 t4, .int .i64 t5, .int .i64 t6, .int .i64 t7, .slice B m d, .int .i64 t9, .int .i64 t10, .int .i64 t11, .int .i64 t12] 29)).drew)) := Lib.hid ((((Below.refl w.heap.size w).alloc (Nat.le_refl _) (.cells #[(.int .i64 s0 : Value), .int .i64 s1, .int .i64 s2, .int .i64 s3, .int .i64 s4, .int .i64 s5, .int .i64 s6, .int .i64 s7, .slice A n c, .int .i64 s9, .int .i64 s10, .int .i64 s11, .int .i64 s12] 29)).alloc (by simp) (.cells #[(.int .i64 t0 : Value), .int .i64 t1, .int .i64 t2, .int .i64 t3, .int .i64 t4, .int .i64 t5, .int .i64 t6, .int .i64 t7, .slice B m d, .int .i64 t9, .int .i64 t10, .int .i64 t11, .int .i64 t12] 29)).drew)
  have RA0 := Lib.hid (ha.kept B0.out)
  have RB0 := Lib.hid (hb.kept B0.out)
  clear hc1 hc2 hs1 hs2 hs3 ha hb
  go_enter Try.func4, Try.ntmps4
  go_wp2_with fail
  have T1 : TB ((w.alloc (.cells #[(.int .i64 s0 : Value), .int .i64 s1, .int .i64 s2, .int .i64 s3, .int .i64 s4, .int .i64 s5, .int .i64 s6, .int .i64 s7, .slice A n c, .int .i64 s9, .int .i64 s10, .int .i64 s11, .int .i64 s12] 29)).alloc (.cells #[(.int .i64 t0 : Value), .int .i64 t1, .int .i64 t2, .int .i64 t3, .int .i64 t4, .int .i64 t5, .int .i64 t6, .int .i64 t7, .slice B m d, .int .i64 t9, .int .i64 t10, .int .i64 t11, .int .i64 t12] 29)) w.heap.size #[(.int .i64 s0 : Value), .int .i64 s1, .int .i64 s2, .int .i64 s3, .int .i64 s4, .int .i64 s5, .int .i64 s6, .int .i64 s7, .slice A n c, .int .i64 s9, .int .i64 s10, .int .i64 s11, .int .i64 s12] #[(.int .i64 t0 : Value), .int .i64 t1, .int .i64 t2, .int .i64 t3, .int .i64 t4, .int .i64 t5, .int .i64 t6, .int .i64 t7, .slice B m d, .int .i64 t9, .int .i64 t10, .int .i64 t11, .int .i64 t12] := T0.out
  have oa0 := T1.1 0 _ rfl
  have oa1 := T1.1 1 _ rfl
  have oa2 := T1.1 2 _ rfl
  have oa3 := T1.1 3 _ rfl
  have oa4 := T1.1 4 _ rfl
  have oa5 := T1.1 5 _ rfl
  have oa6 := T1.1 6 _ rfl
  have oa7 := T1.1 7 _ rfl
  have oa8 := T1.1 8 _ rfl
  have oa9 := T1.1 9 _ rfl
  have oa10 := T1.1 10 _ rfl
  have oa11 := T1.1 11 _ rfl
  have oa12 := T1.1 12 _ rfl
  have ob0 := T1.2 0 _ rfl
  have ob1 := T1.2 1 _ rfl
  have ob2 := T1.2 2 _ rfl
  have ob3 := T1.2 3 _ rfl
  have ob4 := T1.2 4 _ rfl
  have ob5 := T1.2 5 _ rfl
  have ob6 := T1.2 6 _ rfl
  have ob7 := T1.2 7 _ rfl
  have ob8 := T1.2 8 _ rfl
  have ob9 := T1.2 9 _ rfl
  have ob10 := T1.2 10 _ rfl
  have ob11 := T1.2 11 _ rfl
  have ob12 := T1.2 12 _ rfl
  clear T1
  go_region_held3 (fun W => W.cell? ⟨w.heap.size, 0, none⟩ = some (.int .i64 s0) ∧ W.cell? ⟨w.heap.size, 1, none⟩ = some (.int .i64 s1) ∧ W.cell? ⟨w.heap.size, 2, none⟩ = some (.int .i64 s2) ∧ W.cell? ⟨w.heap.size, 3, none⟩ = some (.int .i64 s3) ∧ W.cell? ⟨w.heap.size, 4, none⟩ = some (.int .i64 s4) ∧ W.cell? ⟨w.heap.size, 5, none⟩ = some (.int .i64 s5) ∧ W.cell? ⟨w.heap.size, 6, none⟩ = some (.int .i64 s6) ∧ W.cell? ⟨w.heap.size, 7, none⟩ = some (.int .i64 s7) ∧ W.cell? ⟨w.heap.size, 8, none⟩ = some (.slice A n c) ∧ W.cell? ⟨w.heap.size, 9, none⟩ = some (.int .i64 s9) ∧ W.cell? ⟨w.heap.size, 10, none⟩ = some (.int .i64 s10) ∧ W.cell? ⟨w.heap.size, 11, none⟩ = some (.int .i64 s11) ∧ W.cell? ⟨w.heap.size, 12, none⟩ = some (.int .i64 s12) ∧ W.cell? ⟨w.heap.size + 1, 0, none⟩ = some (.int .i64 t0) ∧ W.cell? ⟨w.heap.size + 1, 1, none⟩ = some (.int .i64 t1) ∧ W.cell? ⟨w.heap.size + 1, 2, none⟩ = some (.int .i64 t2) ∧ W.cell? ⟨w.heap.size + 1, 3, none⟩ = some (.int .i64 t3) ∧ W.cell? ⟨w.heap.size + 1, 4, none⟩ = some (.int .i64 t4) ∧ W.cell? ⟨w.heap.size + 1, 5, none⟩ = some (.int .i64 t5) ∧ W.cell? ⟨w.heap.size + 1, 6, none⟩ = some (.int .i64 t6) ∧ W.cell? ⟨w.heap.size + 1, 7, none⟩ = some (.int .i64 t7) ∧ W.cell? ⟨w.heap.size + 1, 8, none⟩ = some (.slice B m d) ∧ W.cell? ⟨w.heap.size + 1, 9, none⟩ = some (.int .i64 t9) ∧ W.cell? ⟨w.heap.size + 1, 10, none⟩ = some (.int .i64 t10) ∧ W.cell? ⟨w.heap.size + 1, 11, none⟩ = some (.int .i64 t11) ∧ W.cell? ⟨w.heap.size + 1, 12, none⟩ = some (.int .i64 t12))
    (go_keep)
    (first
      | (go_at_call 20; refine (C1.out _ RA0.out).mono ?_; rintro e w1 ⟨rfl, hb1⟩; have TK1 := Lib.hid (TB.next (w := ((w.alloc (.cells #[(.int .i64 s0 : Value), .int .i64 s1, .int .i64 s2, .int .i64 s3, .int .i64 s4, .int .i64 s5, .int .i64 s6, .int .i64 s7, .slice A n c, .int .i64 s9, .int .i64 s10, .int .i64 s11, .int .i64 s12] 29)).alloc (.cells #[(.int .i64 t0 : Value), .int .i64 t1, .int .i64 t2, .int .i64 t3, .int .i64 t4, .int .i64 t5, .int .i64 t6, .int .i64 t7, .slice B m d, .int .i64 t9, .int .i64 t10, .int .i64 t11, .int .i64 t12] 29)).drew) T0.out hb1); have RA1 := Lib.hid (RdZ.kept (w := ((w.alloc (.cells #[(.int .i64 s0 : Value), .int .i64 s1, .int .i64 s2, .int .i64 s3, .int .i64 s4, .int .i64 s5, .int .i64 s6, .int .i64 s7, .slice A n c, .int .i64 s9, .int .i64 s10, .int .i64 s11, .int .i64 s12] 29)).alloc (.cells #[(.int .i64 t0 : Value), .int .i64 t1, .int .i64 t2, .int .i64 t3, .int .i64 t4, .int .i64 t5, .int .i64 t6, .int .i64 t7, .slice B m d, .int .i64 t9, .int .i64 t10, .int .i64 t11, .int .i64 t12] 29)).drew) RA0.out hb1); have RB1 := Lib.hid (RdZ.kept (w := ((w.alloc (.cells #[(.int .i64 s0 : Value), .int .i64 s1, .int .i64 s2, .int .i64 s3, .int .i64 s4, .int .i64 s5, .int .i64 s6, .int .i64 s7, .slice A n c, .int .i64 s9, .int .i64 s10, .int .i64 s11, .int .i64 s12] 29)).alloc (.cells #[(.int .i64 t0 : Value), .int .i64 t1, .int .i64 t2, .int .i64 t3, .int .i64 t4, .int .i64 t5, .int .i64 t6, .int .i64 t7, .slice B m d, .int .i64 t9, .int .i64 t10, .int .i64 t11, .int .i64 t12] 29)).drew) RB0.out hb1); have BK1 := Lib.hid (chain1 B0.out hb1); clear hb1 ; have TT := TK1.out; have c1a0 := TT.1 0 _ rfl; have c1a1 := TT.1 1 _ rfl; have c1a2 := TT.1 2 _ rfl; have c1a3 := TT.1 3 _ rfl; have c1a4 := TT.1 4 _ rfl; have c1a5 := TT.1 5 _ rfl; have c1a6 := TT.1 6 _ rfl; have c1a7 := TT.1 7 _ rfl; have c1a8 := TT.1 8 _ rfl; have c1a9 := TT.1 9 _ rfl; have c1a10 := TT.1 10 _ rfl; have c1a11 := TT.1 11 _ rfl; have c1a12 := TT.1 12 _ rfl; have c1b0 := TT.2 0 _ rfl; have c1b1 := TT.2 1 _ rfl; have c1b2 := TT.2 2 _ rfl; have c1b3 := TT.2 3 _ rfl; have c1b4 := TT.2 4 _ rfl; have c1b5 := TT.2 5 _ rfl; have c1b6 := TT.2 6 _ rfl; have c1b7 := TT.2 7 _ rfl; have c1b8 := TT.2 8 _ rfl; have c1b9 := TT.2 9 _ rfl; have c1b10 := TT.2 10 _ rfl; have c1b11 := TT.2 11 _ rfl; have c1b12 := TT.2 12 _ rfl; clear TT)
      | (go_at_call 21; refine (C2.out _ RA1.out).mono ?_; rintro e w2 ⟨rfl, hb2⟩; have TK2 := Lib.hid (TB.next (w := w1) TK1.out hb2); have RA2 := Lib.hid (RdZ.kept (w := w1) RA1.out hb2); have RB2 := Lib.hid (RdZ.kept (w := w1) RB1.out hb2); have BK2 := Lib.hid (chain1 BK1.out hb2); clear hb2 c1a0 c1a1 c1a2 c1a3 c1a4 c1a5 c1a6 c1a7 c1a8 c1a9 c1a10 c1a11 c1a12 c1b0 c1b1 c1b2 c1b3 c1b4 c1b5 c1b6 c1b7 c1b8 c1b9 c1b10 c1b11 c1b12; have TT := TK2.out; have c2a0 := TT.1 0 _ rfl; have c2a1 := TT.1 1 _ rfl; have c2a2 := TT.1 2 _ rfl; have c2a3 := TT.1 3 _ rfl; have c2a4 := TT.1 4 _ rfl; have c2a5 := TT.1 5 _ rfl; have c2a6 := TT.1 6 _ rfl; have c2a7 := TT.1 7 _ rfl; have c2a8 := TT.1 8 _ rfl; have c2a9 := TT.1 9 _ rfl; have c2a10 := TT.1 10 _ rfl; have c2a11 := TT.1 11 _ rfl; have c2a12 := TT.1 12 _ rfl; have c2b0 := TT.2 0 _ rfl; have c2b1 := TT.2 1 _ rfl; have c2b2 := TT.2 2 _ rfl; have c2b3 := TT.2 3 _ rfl; have c2b4 := TT.2 4 _ rfl; have c2b5 := TT.2 5 _ rfl; have c2b6 := TT.2 6 _ rfl; have c2b7 := TT.2 7 _ rfl; have c2b8 := TT.2 8 _ rfl; have c2b9 := TT.2 9 _ rfl; have c2b10 := TT.2 10 _ rfl; have c2b11 := TT.2 11 _ rfl; have c2b12 := TT.2 12 _ rfl; clear TT)
      | (go_at_call_of 22 (Value.int IntKind.i64 t0); refine (S1.out _ RA2.out RB2.out).mono ?_; rintro e w3 ⟨rfl, hb3⟩; have TK3 := Lib.hid (TB.next (w := w2) TK2.out hb3); have RA3 := Lib.hid (RdZ.kept (w := w2) RA2.out hb3); have RB3 := Lib.hid (RdZ.kept (w := w2) RB2.out hb3); have BK3 := Lib.hid (chain1 BK2.out hb3); clear hb3 c2a0 c2a1 c2a2 c2a3 c2a4 c2a5 c2a6 c2a7 c2a8 c2a9 c2a10 c2a11 c2a12 c2b0 c2b1 c2b2 c2b3 c2b4 c2b5 c2b6 c2b7 c2b8 c2b9 c2b10 c2b11 c2b12; have TT := TK3.out; have c3a0 := TT.1 0 _ rfl; have c3a1 := TT.1 1 _ rfl; have c3a2 := TT.1 2 _ rfl; have c3a3 := TT.1 3 _ rfl; have c3a4 := TT.1 4 _ rfl; have c3a5 := TT.1 5 _ rfl; have c3a6 := TT.1 6 _ rfl; have c3a7 := TT.1 7 _ rfl; have c3a8 := TT.1 8 _ rfl; have c3a9 := TT.1 9 _ rfl; have c3a10 := TT.1 10 _ rfl; have c3a11 := TT.1 11 _ rfl; have c3a12 := TT.1 12 _ rfl; have c3b0 := TT.2 0 _ rfl; have c3b1 := TT.2 1 _ rfl; have c3b2 := TT.2 2 _ rfl; have c3b3 := TT.2 3 _ rfl; have c3b4 := TT.2 4 _ rfl; have c3b5 := TT.2 5 _ rfl; have c3b6 := TT.2 6 _ rfl; have c3b7 := TT.2 7 _ rfl; have c3b8 := TT.2 8 _ rfl; have c3b9 := TT.2 9 _ rfl; have c3b10 := TT.2 10 _ rfl; have c3b11 := TT.2 11 _ rfl; have c3b12 := TT.2 12 _ rfl; clear TT)
      | (go_at_call 23; refine (S2.out _ RA3.out RB3.out).mono ?_; rintro e w4 ⟨rfl, hb4⟩; have TK4 := Lib.hid (TB.next (w := w3) TK3.out hb4); have RA4 := Lib.hid (RdZ.kept (w := w3) RA3.out hb4); have RB4 := Lib.hid (RdZ.kept (w := w3) RB3.out hb4); have BK4 := Lib.hid (chain1 BK3.out hb4); clear hb4 c3a0 c3a1 c3a2 c3a3 c3a4 c3a5 c3a6 c3a7 c3a8 c3a9 c3a10 c3a11 c3a12 c3b0 c3b1 c3b2 c3b3 c3b4 c3b5 c3b6 c3b7 c3b8 c3b9 c3b10 c3b11 c3b12; have TT := TK4.out; have c4a0 := TT.1 0 _ rfl; have c4a1 := TT.1 1 _ rfl; have c4a2 := TT.1 2 _ rfl; have c4a3 := TT.1 3 _ rfl; have c4a4 := TT.1 4 _ rfl; have c4a5 := TT.1 5 _ rfl; have c4a6 := TT.1 6 _ rfl; have c4a7 := TT.1 7 _ rfl; have c4a8 := TT.1 8 _ rfl; have c4a9 := TT.1 9 _ rfl; have c4a10 := TT.1 10 _ rfl; have c4a11 := TT.1 11 _ rfl; have c4a12 := TT.1 12 _ rfl; have c4b0 := TT.2 0 _ rfl; have c4b1 := TT.2 1 _ rfl; have c4b2 := TT.2 2 _ rfl; have c4b3 := TT.2 3 _ rfl; have c4b4 := TT.2 4 _ rfl; have c4b5 := TT.2 5 _ rfl; have c4b6 := TT.2 6 _ rfl; have c4b7 := TT.2 7 _ rfl; have c4b8 := TT.2 8 _ rfl; have c4b9 := TT.2 9 _ rfl; have c4b10 := TT.2 10 _ rfl; have c4b11 := TT.2 11 _ rfl; have c4b12 := TT.2 12 _ rfl; clear TT)
      | (go_at_call 22; refine (S3.out _ RA4.out).mono ?_; rintro e w5 ⟨rfl, hb5⟩; have TK5 := Lib.hid (TB.next (w := w4) TK4.out hb5); have RA5 := Lib.hid (RdZ.kept (w := w4) RA4.out hb5); have RB5 := Lib.hid (RdZ.kept (w := w4) RB4.out hb5); have BK5 := Lib.hid (chain1 BK4.out hb5); clear hb5 c4a0 c4a1 c4a2 c4a3 c4a4 c4a5 c4a6 c4a7 c4a8 c4a9 c4a10 c4a11 c4a12 c4b0 c4b1 c4b2 c4b3 c4b4 c4b5 c4b6 c4b7 c4b8 c4b9 c4b10 c4b11 c4b12; have TT := TK5.out; have c5a0 := TT.1 0 _ rfl; have c5a1 := TT.1 1 _ rfl; have c5a2 := TT.1 2 _ rfl; have c5a3 := TT.1 3 _ rfl; have c5a4 := TT.1 4 _ rfl; have c5a5 := TT.1 5 _ rfl; have c5a6 := TT.1 6 _ rfl; have c5a7 := TT.1 7 _ rfl; have c5a8 := TT.1 8 _ rfl; have c5a9 := TT.1 9 _ rfl; have c5a10 := TT.1 10 _ rfl; have c5a11 := TT.1 11 _ rfl; have c5a12 := TT.1 12 _ rfl; have c5b0 := TT.2 0 _ rfl; have c5b1 := TT.2 1 _ rfl; have c5b2 := TT.2 2 _ rfl; have c5b3 := TT.2 3 _ rfl; have c5b4 := TT.2 4 _ rfl; have c5b5 := TT.2 5 _ rfl; have c5b6 := TT.2 6 _ rfl; have c5b7 := TT.2 7 _ rfl; have c5b8 := TT.2 8 _ rfl; have c5b9 := TT.2 9 _ rfl; have c5b10 := TT.2 10 _ rfl; have c5b11 := TT.2 11 _ rfl; have c5b12 := TT.2 12 _ rfl; clear TT)
      | (go_at_call 19; refine (valive _).mono ?_; rintro e w6 ⟨rfl, hb6⟩; have BK6 := Lib.hid (chain1 BK5.out hb6); have TT := TB.next TK5.out hb6; clear c5a0 c5a1 c5a2 c5a3 c5a4 c5a5 c5a6 c5a7 c5a8 c5a9 c5a10 c5a11 c5a12 c5b0 c5b1 c5b2 c5b3 c5b4 c5b5 c5b6 c5b7 c5b8 c5b9 c5b10 c5b11 c5b12; have c6a0 := TT.1 0 _ rfl; have c6a1 := TT.1 1 _ rfl; have c6a2 := TT.1 2 _ rfl; have c6a3 := TT.1 3 _ rfl; have c6a4 := TT.1 4 _ rfl; have c6a5 := TT.1 5 _ rfl; have c6a6 := TT.1 6 _ rfl; have c6a7 := TT.1 7 _ rfl; have c6a8 := TT.1 8 _ rfl; have c6a9 := TT.1 9 _ rfl; have c6a10 := TT.1 10 _ rfl; have c6a11 := TT.1 11 _ rfl; have c6a12 := TT.1 12 _ rfl; have c6b0 := TT.2 0 _ rfl; have c6b1 := TT.2 1 _ rfl; have c6b2 := TT.2 2 _ rfl; have c6b3 := TT.2 3 _ rfl; have c6b4 := TT.2 4 _ rfl; have c6b5 := TT.2 5 _ rfl; have c6b6 := TT.2 6 _ rfl; have c6b7 := TT.2 7 _ rfl; have c6b8 := TT.2 8 _ rfl; have c6b9 := TT.2 9 _ rfl; have c6b10 := TT.2 10 _ rfl; have c6b11 := TT.2 11 _ rfl; have c6b12 := TT.2 12 _ rfl; clear TT))
  go_wp2_with fail
  go_ret
  exact ⟨rfl, BK6.out⟩
theorem walk {s0 s1 s2 s3 s4 s5 s6 s7 s9 s10 s11 s12 t0 t1 t2 t3 t4 t5 t6 t7 t9 t10 t11 t12 : Int} {A B : Option Addr} {n c m d : Nat} {z y : Nat → Nat → Int} {w : World} (_ : (Lit.int .i64 s0).wf = true) (_ : (Lit.int .i64 s1).wf = true) (_ : (Lit.int .i64 s2).wf = true) (_ : (Lit.int .i64 s3).wf = true) (_ : (Lit.int .i64 s4).wf = true) (_ : (Lit.int .i64 s5).wf = true) (_ : (Lit.int .i64 s6).wf = true) (_ : (Lit.int .i64 s7).wf = true) (_ : n ≤ c) (hm : c ≤ maxLen) (hr : RdZ w 3 A n z) (_ : A = none → c = 0) (_ : (Lit.int .i64 s9).wf = true) (_ : (Lit.int .i64 s10).wf = true) (_ : (Lit.int .i64 s11).wf = true) (_ : (Lit.int .i64 s12).wf = true) (_ : (Lit.int .i64 t0).wf = true) (_ : (Lit.int .i64 t1).wf = true) (_ : (Lit.int .i64 t2).wf = true) (_ : (Lit.int .i64 t3).wf = true) (_ : (Lit.int .i64 t4).wf = true) (_ : (Lit.int .i64 t5).wf = true) (_ : (Lit.int .i64 t6).wf = true) (_ : (Lit.int .i64 t7).wf = true) (_ : m ≤ d) (hm2 : d ≤ maxLen) (hr2 : RdZ w 3 B m y) (_ : B = none → d = 0) (_ : (Lit.int .i64 t9).wf = true) (_ : (Lit.int .i64 t10).wf = true) (_ : (Lit.int .i64 t11).wf = true) (_ : (Lit.int .i64 t12).wf = true) :
    Calls Try.prog 4 #[(.agg #[.int .i64 s0, .int .i64 s1, .int .i64 s2, .int .i64 s3, .int .i64 s4, .int .i64 s5, .int .i64 s6, .int .i64 s7, .slice A n c, .int .i64 s9, .int .i64 s10, .int .i64 s11, .int .i64 s12]), (.agg #[.int .i64 t0, .int .i64 t1, .int .i64 t2, .int .i64 t3, .int .i64 t4, .int .i64 t5, .int .i64 t6, .int .i64 t7, .slice B m d, .int .i64 t9, .int .i64 t10, .int .i64 t11, .int .i64 t12])] w fun e w' => e = .returned (.bool true) ∧ Below w.heap.size w w' := by
  by_cases h1 : 30 < n
  · exact walk_long1 s0 s1 s2 s3 s4 s5 s6 s7 s9 s10 s11 s12 t0 t1 t2 t3 t4 t5 t6 t7 t9 t10 t11 t12 A B n c m d w h1
  by_cases h2 : 30 < m
  · exact walk_long2 s0 s1 s2 s3 s4 s5 s6 s7 s9 s10 s11 s12 t0 t1 t2 t3 t4 t5 t6 t7 t9 t10 t11 t12 A B n c m d w (by omega) h2
  by_cases hv : (n = m ∧ sgB z y n = true) ∧ s0 = t0 ∧ s1 = t1 ∧ s2 = t2 ∧ s3 = t3 ∧ s4 = t4 ∧ s5 = t5 ∧ s6 = t6 ∧ s7 = t7 ∧ s9 = t9 ∧ s10 = t10 ∧ s11 = t11 ∧ s12 = t12
  all_goals (
    refine walk_in s0 s1 s2 s3 s4 s5 s6 s7 s9 s10 s11 s12 t0 t1 t2 t3 t4 t5 t6 t7 t9 t10 t11 t12 A B n c m d z y w (by omega) (by omega) hr hr2 _ (decide ((n = m ∧ sgB z y n = true) ∧ s0 = t0 ∧ s1 = t1 ∧ s2 = t2 ∧ s3 = t3 ∧ s4 = t4 ∧ s5 = t5 ∧ s6 = t6 ∧ s7 = t7 ∧ s9 = t9 ∧ s10 = t10 ∧ s11 = t11 ∧ s12 = t12))
      (fun W h => pcheck_any s0 s1 s2 s3 s4 s5 s6 s7 s9 s10 s11 s12 A n c z W h (by omega)) (fun W h => rcheck_any s0 s1 s2 s3 s4 s5 s6 s7 s9 s10 s11 s12 A n c z W h (by omega))
      (fun W ha hb => psame_any s0 s1 s2 s3 s4 s5 s6 s7 s9 s10 s11 s12 t0 t1 t2 t3 t4 t5 t6 t7 t9 t10 t11 t12 A B n c m d z y _ W ha hb (by omega) (fun a b e0 e1 e2 e3 e4 e5 e6 e7 e9 e10 e11 e12 => decide_eq_true ⟨⟨a, b⟩, e0, e1, e2, e3, e4, e5, e6, e7, e9, e10, e11, e12⟩) (fun hc => decide_eq_false hc))
      (fun W ha hb => ?_)
      (fun W ha => psame_any s0 s1 s2 s3 s4 s5 s6 s7 s9 s10 s11 s12 s0 s1 s2 s3 s4 s5 s6 s7 s9 s10 s11 s12 A A n c n c z z true W ha ha (by omega) (fun _ _ _ _ _ _ _ _ _ _ _ _ _ _ => rfl) (fun hc => absurd ⟨⟨rfl, sgB_self z n⟩, rfl, rfl, rfl, rfl, rfl, rfl, rfl, rfl, rfl, rfl, rfl, rfl⟩ hc))
    by_cases hnm : n = m
    · subst hnm
      exact rsame_any s0 s1 s2 s3 s4 s5 s6 s7 s9 s10 s11 s12 t0 t1 t2 t3 t4 t5 t6 t7 t9 t10 t11 t12 A B n c d z y _ W ha hb (by omega) (fun b e0 e1 e2 e3 e4 e5 e6 e7 e9 e10 e11 e12 => decide_eq_true ⟨⟨rfl, b⟩, e0, e1, e2, e3, e4, e5, e6, e7, e9, e10, e11, e12⟩) (fun hc => decide_eq_false (fun hd => hc ⟨hd.1.2, hd.2⟩))
    · have := rsame_len s0 s1 s2 s3 s4 s5 s6 s7 s9 s10 s11 s12 t0 t1 t2 t3 t4 t5 t6 t7 t9 t10 t11 t12 A B n c m d W hnm
      rwa [show decide ((n = m ∧ sgB z y n = true) ∧ s0 = t0 ∧ s1 = t1 ∧ s2 = t2 ∧ s3 = t3 ∧ s4 = t4 ∧ s5 = t5 ∧ s6 = t6 ∧ s7 = t7 ∧ s9 = t9 ∧ s10 = t10 ∧ s11 = t11 ∧ s12 = t12) = false from decide_eq_false (fun hd => hnm hd.1.1)])

end Go.Proofs.Ytmdjncknjbjmbaa.vetChecks
