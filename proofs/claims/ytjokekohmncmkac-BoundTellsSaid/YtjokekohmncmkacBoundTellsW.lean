/- The walk of BoundTells: it answers true for every input, and leaves all old blocks as they were. No condition. -/
import Derived.Test.YtjokekohmncmkacRows
import Derived.Test.YtjokekohmncmkacRowKit
import Derived.Test.YtjokekohmncmkacRowS
import Derived.Test.YtjokekohmncmkacRowZ
import Derived.Test.YtjokekohmncmkacVetA
import Derived.Test.YtjokekohmncmkacVetB
import Derived.Test.YtjokekohmncmkacBoundA
import Derived.Test.YtjokekohmncmkacBoundB
import Derived.Test.YtjokekohmncmkacBoundC
import Derived.Test.YtjokekohmncmkacBoundMla
import Derived.Test.YtjokekohmncmkacBoundMlb
import Derived.Test.YtjokekohmncmkacBoundMza
import Derived.Test.YtjokekohmncmkacBoundMzb
import Derived.Test.YtjokekohmncmkacBoundMsa
import Derived.Test.YtjokekohmncmkacBoundMsb
import Derived.Test.YtjokekohmncmkacBoundMma
import Derived.Test.YtjokekohmncmkacBoundMmb
import Derived.WalkKit
import Derived.ProofKit
import Derived.OpenShut
import Derived.Deep.QuietTactic
import Derived.BigQuiet
import Derived.Lib.SmallJoins
import Derived.Lib.Hide
import Derived.WalkSpells
import Derived.WalkLawsBesides
import Derived.IntWalk
import Derived.Below
import Derived.Deep.RegionHeld3
namespace Go.Proofs.Ytjokekohmncmkac.boundTells
open Go.ChangeShapes Go.WideShapes Go.ChangeAt Go.RowKit Go.Joins
set_option linter.unusedSimpArgs false
set_option linter.unusedVariables false


set_option maxRecDepth 100000 in
set_option maxHeartbeats 1000000 in
theorem walk_long (s0 s1 s2 s3 s4 s5 s6 s7 s9 s10 s11 s12 : Int) (A : Option Addr) (n c : Nat) (p l : Int) (z : Nat → Nat → Int) (w : World) (hr : RdZ w 3 A n z) (hm : n ≤ 9223372036854775807) (h : 8 < n) :
    Calls Try.prog 7 #[.agg #[.int .i64 s0, .int .i64 s1, .int .i64 s2, .int .i64 s3, .int .i64 s4, .int .i64 s5, .int .i64 s6, .int .i64 s7, .slice A n c, .int .i64 s9, .int .i64 s10, .int .i64 s11, .int .i64 s12], .int .i64 p, .int .i64 l] w fun e w' => e = .returned (.bool true) ∧ Below w.heap.size w w' := by
  have B := Lib.hid (Joins.below_alloc1 w (.cells #[.int .i64 s0, .int .i64 s1, .int .i64 s2, .int .i64 s3, .int .i64 s4, .int .i64 s5, .int .i64 s6, .int .i64 s7, .slice A n c, .int .i64 s9, .int .i64 s10, .int .i64 s11, .int .i64 s12] 57))
  go_enter Try.func7, Try.ntmps7
  go_wp2_with fail
  go_ret
  exact ⟨rfl, B.out⟩
set_option maxRecDepth 100000 in
set_option maxHeartbeats 1000000 in
theorem walk_bad (s0 s1 s2 s3 s4 s5 s6 s7 s9 s10 s11 s12 : Int) (A : Option Addr) (n c : Nat) (p l : Int) (z : Nat → Nat → Int) (w : World) (hr : RdZ w 3 A n z) (hm : n ≤ 9223372036854775807) (h : ¬ 8 < n) (hc : ckA (numV s0 s1 s2 s3 s4 s5 s6 s7 s10 s11 s12) s9 n z ≠ 0) :
    Calls Try.prog 7 #[.agg #[.int .i64 s0, .int .i64 s1, .int .i64 s2, .int .i64 s3, .int .i64 s4, .int .i64 s5, .int .i64 s6, .int .i64 s7, .slice A n c, .int .i64 s9, .int .i64 s10, .int .i64 s11, .int .i64 s12], .int .i64 p, .int .i64 l] w fun e w' => e = .returned (.bool true) ∧ Below w.heap.size w w' := by
  have B := Lib.hid (Joins.below_alloc1 w (.cells #[.int .i64 s0, .int .i64 s1, .int .i64 s2, .int .i64 s3, .int .i64 s4, .int .i64 s5, .int .i64 s6, .int .i64 s7, .slice A n c, .int .i64 s9, .int .i64 s10, .int .i64 s11, .int .i64 s12] 57))
  have HC := Lib.hid (fun W (hb : Below w.heap.size w W) => rcheck_any s0 s1 s2 s3 s4 s5 s6 s7 s9 s10 s11 s12 A n c z W (hr.kept hb) hm)
  obtain ⟨v, hv⟩ : ∃ v, ckA (numV s0 s1 s2 s3 s4 s5 s6 s7 s10 s11 s12) s9 n z = v := ⟨_, rfl⟩
  rw [hv] at hc
  have HV := Lib.hid (show ∀ W, Below w.heap.size w W → _ from fun W hb => by have := HC.out W hb; rw [hv] at this; exact this)
  have q1 : (v != 0) = true := by rw [bne_iff_ne]; exact hc
  have q2 : (v == 0) = false := by rw [beq_eq_false_iff_ne]; exact hc
  clear hc hv HC
  go_enter Try.func7, Try.ntmps7
  go_wp2_with (go_at_call 24; refine (HV.out _ B.out).mono ?_; rintro e w1 ⟨rfl, hb1⟩)
  go_ret
  exact ⟨rfl, B.out.trans (Joins.below_le hb1 (by simp))⟩
set_option maxRecDepth 100000 in
set_option maxHeartbeats 1000000 in
theorem walk_p0 (s0 s1 s2 s3 s4 s5 s6 s7 s9 s10 s11 s12 : Int) (A : Option Addr) (n c : Nat) (p l : Int) (z : Nat → Nat → Int) (w : World) (hr : RdZ w 3 A n z) (hm : n ≤ 9223372036854775807) (h : ¬ 8 < n) (hc : ckA (numV s0 s1 s2 s3 s4 s5 s6 s7 s10 s11 s12) s9 n z = 0)  (hx : p < 0) :
    Calls Try.prog 7 #[.agg #[.int .i64 s0, .int .i64 s1, .int .i64 s2, .int .i64 s3, .int .i64 s4, .int .i64 s5, .int .i64 s6, .int .i64 s7, .slice A n c, .int .i64 s9, .int .i64 s10, .int .i64 s11, .int .i64 s12], .int .i64 p, .int .i64 l] w fun e w' => e = .returned (.bool true) ∧ Below w.heap.size w w' := by
  have B := Lib.hid (Joins.below_alloc1 w (.cells #[.int .i64 s0, .int .i64 s1, .int .i64 s2, .int .i64 s3, .int .i64 s4, .int .i64 s5, .int .i64 s6, .int .i64 s7, .slice A n c, .int .i64 s9, .int .i64 s10, .int .i64 s11, .int .i64 s12] 57))
  have HC := Lib.hid (fun W (hb : Below w.heap.size w W) => rcheck_any s0 s1 s2 s3 s4 s5 s6 s7 s9 s10 s11 s12 A n c z W (hr.kept hb) hm)
  have hv := hc
  clear hc
  have HV := Lib.hid (show ∀ W, Below w.heap.size w W → _ from fun W hb => by have := HC.out W hb; rw [hv] at this; exact this)
  clear hv HC
  go_enter Try.func7, Try.ntmps7
  go_wp2_with (go_at_call 24; refine (HV.out _ B.out).mono ?_; rintro e w1 ⟨rfl, hb1⟩)
  go_ret
  exact ⟨rfl, B.out.trans (Joins.below_le hb1 (by simp))⟩
set_option maxRecDepth 100000 in
set_option maxHeartbeats 1000000 in
theorem walk_p1 (s0 s1 s2 s3 s4 s5 s6 s7 s9 s10 s11 s12 : Int) (A : Option Addr) (n c : Nat) (p l : Int) (z : Nat → Nat → Int) (w : World) (hr : RdZ w 3 A n z) (hm : n ≤ 9223372036854775807) (h : ¬ 8 < n) (hc : ckA (numV s0 s1 s2 s3 s4 s5 s6 s7 s10 s11 s12) s9 n z = 0)  (hx : 1073741824 < p) :
    Calls Try.prog 7 #[.agg #[.int .i64 s0, .int .i64 s1, .int .i64 s2, .int .i64 s3, .int .i64 s4, .int .i64 s5, .int .i64 s6, .int .i64 s7, .slice A n c, .int .i64 s9, .int .i64 s10, .int .i64 s11, .int .i64 s12], .int .i64 p, .int .i64 l] w fun e w' => e = .returned (.bool true) ∧ Below w.heap.size w w' := by
  have B := Lib.hid (Joins.below_alloc1 w (.cells #[.int .i64 s0, .int .i64 s1, .int .i64 s2, .int .i64 s3, .int .i64 s4, .int .i64 s5, .int .i64 s6, .int .i64 s7, .slice A n c, .int .i64 s9, .int .i64 s10, .int .i64 s11, .int .i64 s12] 57))
  have HC := Lib.hid (fun W (hb : Below w.heap.size w W) => rcheck_any s0 s1 s2 s3 s4 s5 s6 s7 s9 s10 s11 s12 A n c z W (hr.kept hb) hm)
  have hv := hc
  clear hc
  have HV := Lib.hid (show ∀ W, Below w.heap.size w W → _ from fun W hb => by have := HC.out W hb; rw [hv] at this; exact this)
  clear hv HC
  go_enter Try.func7, Try.ntmps7
  go_wp2_with (go_at_call 24; refine (HV.out _ B.out).mono ?_; rintro e w1 ⟨rfl, hb1⟩)
  go_ret
  exact ⟨rfl, B.out.trans (Joins.below_le hb1 (by simp))⟩
set_option maxRecDepth 100000 in
set_option maxHeartbeats 1000000 in
theorem walk_l0 (s0 s1 s2 s3 s4 s5 s6 s7 s9 s10 s11 s12 : Int) (A : Option Addr) (n c : Nat) (p l : Int) (z : Nat → Nat → Int) (w : World) (hr : RdZ w 3 A n z) (hm : n ≤ 9223372036854775807) (h : ¬ 8 < n) (hc : ckA (numV s0 s1 s2 s3 s4 s5 s6 s7 s10 s11 s12) s9 n z = 0) (a : 0 ≤ p) (b : p ≤ 1073741824) (hx : l < 0) :
    Calls Try.prog 7 #[.agg #[.int .i64 s0, .int .i64 s1, .int .i64 s2, .int .i64 s3, .int .i64 s4, .int .i64 s5, .int .i64 s6, .int .i64 s7, .slice A n c, .int .i64 s9, .int .i64 s10, .int .i64 s11, .int .i64 s12], .int .i64 p, .int .i64 l] w fun e w' => e = .returned (.bool true) ∧ Below w.heap.size w w' := by
  have B := Lib.hid (Joins.below_alloc1 w (.cells #[.int .i64 s0, .int .i64 s1, .int .i64 s2, .int .i64 s3, .int .i64 s4, .int .i64 s5, .int .i64 s6, .int .i64 s7, .slice A n c, .int .i64 s9, .int .i64 s10, .int .i64 s11, .int .i64 s12] 57))
  have HC := Lib.hid (fun W (hb : Below w.heap.size w W) => rcheck_any s0 s1 s2 s3 s4 s5 s6 s7 s9 s10 s11 s12 A n c z W (hr.kept hb) hm)
  have hv := hc
  clear hc
  have HV := Lib.hid (show ∀ W, Below w.heap.size w W → _ from fun W hb => by have := HC.out W hb; rw [hv] at this; exact this)
  clear hv HC
  go_enter Try.func7, Try.ntmps7
  go_wp2_with (go_at_call 24; refine (HV.out _ B.out).mono ?_; rintro e w1 ⟨rfl, hb1⟩)
  go_ret
  exact ⟨rfl, B.out.trans (Joins.below_le hb1 (by simp))⟩
set_option maxRecDepth 100000 in
set_option maxHeartbeats 1000000 in
theorem walk_l1 (s0 s1 s2 s3 s4 s5 s6 s7 s9 s10 s11 s12 : Int) (A : Option Addr) (n c : Nat) (p l : Int) (z : Nat → Nat → Int) (w : World) (hr : RdZ w 3 A n z) (hm : n ≤ 9223372036854775807) (h : ¬ 8 < n) (hc : ckA (numV s0 s1 s2 s3 s4 s5 s6 s7 s10 s11 s12) s9 n z = 0) (a : 0 ≤ p) (b : p ≤ 1073741824) (c' : 0 ≤ l) (hx : 1073741824 < l) :
    Calls Try.prog 7 #[.agg #[.int .i64 s0, .int .i64 s1, .int .i64 s2, .int .i64 s3, .int .i64 s4, .int .i64 s5, .int .i64 s6, .int .i64 s7, .slice A n c, .int .i64 s9, .int .i64 s10, .int .i64 s11, .int .i64 s12], .int .i64 p, .int .i64 l] w fun e w' => e = .returned (.bool true) ∧ Below w.heap.size w w' := by
  have B := Lib.hid (Joins.below_alloc1 w (.cells #[.int .i64 s0, .int .i64 s1, .int .i64 s2, .int .i64 s3, .int .i64 s4, .int .i64 s5, .int .i64 s6, .int .i64 s7, .slice A n c, .int .i64 s9, .int .i64 s10, .int .i64 s11, .int .i64 s12] 57))
  have HC := Lib.hid (fun W (hb : Below w.heap.size w W) => rcheck_any s0 s1 s2 s3 s4 s5 s6 s7 s9 s10 s11 s12 A n c z W (hr.kept hb) hm)
  have hv := hc
  clear hc
  have HV := Lib.hid (show ∀ W, Below w.heap.size w W → _ from fun W hb => by have := HC.out W hb; rw [hv] at this; exact this)
  clear hv HC
  go_enter Try.func7, Try.ntmps7
  go_wp2_with (go_at_call 24; refine (HV.out _ B.out).mono ?_; rintro e w1 ⟨rfl, hb1⟩)
  go_ret
  exact ⟨rfl, B.out.trans (Joins.below_le hb1 (by simp))⟩
theorem walk {s0 s1 s2 s3 s4 s5 s6 s7 s9 s10 s11 s12 : Int} {A : Option Addr} {n c : Nat} {z : Nat → Nat → Int} {p l : Int} {w : World} (_ : (Lit.int .i64 s0).wf = true) (_ : (Lit.int .i64 s1).wf = true) (_ : (Lit.int .i64 s2).wf = true) (_ : (Lit.int .i64 s3).wf = true) (_ : (Lit.int .i64 s4).wf = true) (_ : (Lit.int .i64 s5).wf = true) (_ : (Lit.int .i64 s6).wf = true) (_ : (Lit.int .i64 s7).wf = true) (_ : n ≤ c) (hm : c ≤ maxLen) (hr : RdZ w 3 A n z) (_ : A = none → c = 0) (_ : (Lit.int .i64 s9).wf = true) (_ : (Lit.int .i64 s10).wf = true) (_ : (Lit.int .i64 s11).wf = true) (_ : (Lit.int .i64 s12).wf = true) (_ : (Lit.int .i64 p).wf = true) (_ : (Lit.int .i64 l).wf = true) :
    Calls Try.prog 7 #[.agg #[.int .i64 s0, .int .i64 s1, .int .i64 s2, .int .i64 s3, .int .i64 s4, .int .i64 s5, .int .i64 s6, .int .i64 s7, .slice A n c, .int .i64 s9, .int .i64 s10, .int .i64 s11, .int .i64 s12], .int .i64 p, .int .i64 l] w fun e w' => e = .returned (.bool true) ∧ Below w.heap.size w w' := by
  have hn : n ≤ 9223372036854775807 := by unfold maxLen at hm; omega
  by_cases h8 : 8 < n
  · exact walk_long s0 s1 s2 s3 s4 s5 s6 s7 s9 s10 s11 s12 A n c p l z w hr hn h8
  by_cases hc : ckA (numV s0 s1 s2 s3 s4 s5 s6 s7 s10 s11 s12) s9 n z = 0
  · have hs := sb_of (ck_ok hc)
    by_cases p0 : p < 0
    · exact walk_p0 s0 s1 s2 s3 s4 s5 s6 s7 s9 s10 s11 s12 A n c p l z w hr hn h8 hc p0
    by_cases p1 : 1073741824 < p
    · exact walk_p1 s0 s1 s2 s3 s4 s5 s6 s7 s9 s10 s11 s12 A n c p l z w hr hn h8 hc p1
    by_cases l0 : l < 0
    · exact walk_l0 s0 s1 s2 s3 s4 s5 s6 s7 s9 s10 s11 s12 A n c p l z w hr hn h8 hc (by omega) (by omega) l0
    by_cases l1 : 1073741824 < l
    · exact walk_l1 s0 s1 s2 s3 s4 s5 s6 s7 s9 s10 s11 s12 A n c p l z w hr hn h8 hc (by omega) (by omega) (by omega) l1
    by_cases hd : s5 < s7
    · rcases Int.lt_trichotomy p s3 with q | q | q
      · by_cases pq : 0 < p
        · exact main_la s0 s1 s2 s3 s4 s5 s6 s7 s9 s10 s11 s12 A n c p l z w hr hn h8 hc hs (by omega) (by omega) (by omega) (by omega) pq q hd
        · exact main_za s0 s1 s2 s3 s4 s5 s6 s7 s9 s10 s11 s12 A n c p l z w hr hn h8 hc hs (by omega) (by omega) (by omega) (by omega) pq q hd
      · exact main_sa s0 s1 s2 s3 s4 s5 s6 s7 s9 s10 s11 s12 A n c p l z w hr hn h8 hc hs (by omega) (by omega) (by omega) (by omega) (by have := hs.2.2.1.1; omega) (by omega) (by omega) hd
      · exact main_ma s0 s1 s2 s3 s4 s5 s6 s7 s9 s10 s11 s12 A n c p l z w hr hn h8 hc hs (by omega) (by omega) (by omega) (by omega) (by have := hs.2.2.1.1; omega) q hd
    · rcases Int.lt_trichotomy p s3 with q | q | q
      · by_cases pq : 0 < p
        · exact main_lb s0 s1 s2 s3 s4 s5 s6 s7 s9 s10 s11 s12 A n c p l z w hr hn h8 hc hs (by omega) (by omega) (by omega) (by omega) pq q hd
        · exact main_zb s0 s1 s2 s3 s4 s5 s6 s7 s9 s10 s11 s12 A n c p l z w hr hn h8 hc hs (by omega) (by omega) (by omega) (by omega) pq q hd
      · exact main_sb s0 s1 s2 s3 s4 s5 s6 s7 s9 s10 s11 s12 A n c p l z w hr hn h8 hc hs (by omega) (by omega) (by omega) (by omega) (by have := hs.2.2.1.1; omega) (by omega) (by omega) hd
      · exact main_mb s0 s1 s2 s3 s4 s5 s6 s7 s9 s10 s11 s12 A n c p l z w hr hn h8 hc hs (by omega) (by omega) (by omega) (by omega) (by have := hs.2.2.1.1; omega) q hd
  · exact walk_bad s0 s1 s2 s3 s4 s5 s6 s7 s9 s10 s11 s12 A n c p l z w hr hn h8 hc

end Go.Proofs.Ytjokekohmncmkac.boundTells
