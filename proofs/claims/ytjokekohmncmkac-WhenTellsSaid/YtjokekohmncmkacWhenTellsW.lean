/- The walk of WhenTells: it answers true for every input, and leaves all old blocks as they were. No condition. -/
import Derived.Test.YtjokekohmncmkacRows
import Derived.Test.YtjokekohmncmkacRowKit
import Derived.Test.YtjokekohmncmkacRowS
import Derived.Test.YtjokekohmncmkacRowZ
import Derived.Test.YtjokekohmncmkacWhenMath
import Derived.Test.YtjokekohmncmkacWhenA
import Derived.WalkKit
import Derived.ProofKit
import Derived.OpenShut
import Derived.Deep.QuietTactic
import Derived.BigQuiet
import Derived.Lib.SmallJoins
import Derived.Lib.Hide
import Derived.WalkSpells
import Derived.WalkLawsBesides
import Derived.IntWalk
namespace Go.Proofs.Ytjokekohmncmkac.whenTells
open Go.ChangeShapes Go.WideShapes Go.ChangeAt Go.RowKit Go.Joins
set_option linter.unusedSimpArgs false
set_option linter.unusedVariables false


/-- where the k-th begins, if it is among the first m -/
def stS (z : Nat → Nat → Int) (q : Int) (m : Nat) : Int := stV z m q
theorem stS_eq {z : Nat → Nat → Int} {q : Int} {m : Nat} (h : (m : Int) = q) : stV z (m + 1) q = seg z m := by
  subst h; exact (st_yes (by omega)).1
theorem stS_ne {z : Nat → Nat → Int} {q : Int} {m : Nat} (h : ¬ (m : Int) = q) : stV z (m + 1) q = stV z m q := by
  unfold stV
  by_cases c : 0 ≤ q ∧ q < m
  · rw [if_pos c, if_pos (by omega)]
  · rw [if_neg c, if_neg (by omega)]
theorem vint {k : IntKind} {a b : Int} (h : a = b) : Value.int k a = .int k b := by rw [h]
theorem vbool {a b : Bool} (h : a = b) : Value.bool a = .bool b := by rw [h]
set_option maxHeartbeats 2000000 in
theorem walk_small {A : Option Addr} {c n : Nat} {z : Nat → Nat → Int} {t q : Int} (w : World) (hc : n ≤ c) (hm : c ≤ maxLen) (hr : RdZ w 3 A n z) (hn : n ≤ 30) :
    Calls Try.prog 5 #[.slice A n c, .int .i64 t, .int .i64 q] w fun e w' => e = .returned (.bool true) ∧ Below w.heap.size w w' := by
  have CA := Lib.hid (fun W (hb : Below w.heap.size w W) => wat_any A c n z t W (hr.kept hb) (by omega))
  have CS := Lib.hid (fun W (hb : Below w.heap.size w W) => wstart_any A c n z q W (hr.kept hb) (by omega) hc hm)
  have CT := Lib.hid (fun W (hb : Below w.heap.size w W) => wtotal_any A c n z W (hr.kept hb) (by omega))
  unfold maxLen at hm
  go_enter Try.func5, Try.ntmps5
  go_wp2_with fail
  go_loop [7, 8, 9, 10, 11] (fun a f s st i => ∃ k : Nat, k ≤ n ∧ i = .int .i64 k ∧ s = .int .i64 (seg z k) ∧ a = .int .i64 (atV z t k : Nat) ∧ f = .bool (atF z t k) ∧ st = .int .i64 (stV z k q)) (fun _ _ _ _ i => n - (intOf i).toNat)
  case atStart => exact ⟨0, by omega, rfl, rfl, rfl, vbool (by unfold atF; rw [seg_zero]; exact (decide_eq_false (by omega)).symm), vint (by unfold stV; rw [if_neg (by omega)])⟩
  case round =>
    obtain ⟨k, hk, rfl, rfl, rfl, rfl, rfl⟩ := hrel
    have sb := seg_bd z k
    have sc := cutT_bd (z k 1)
    obtain ⟨av, hav⟩ : ∃ x, atV z t k = x := ⟨_, rfl⟩
    obtain ⟨fv, hfv⟩ : ∃ x, atF z t k = x := ⟨_, rfl⟩
    obtain ⟨sv, hsv⟩ : ∃ x, stV z k q = x := ⟨_, rfl⟩
    rw [hav, hfv, hsv]
    by_cases h : k < n
    · obtain ⟨b, off, rfl, hlt, hcl⟩ := rdZ_row hr (by omega) (by omega)
      have c1 := hcl k 1 h (by omega)
      clear hcl
      have SS := Lib.hid (seg_succ z k)
      have H1 := Lib.hid hav
      have H2 := Lib.hid hfv
      have H3 := Lib.hid hsv
      clear hav hfv hsv
      by_cases e1 : (k : Int) = q
      · have S1 := Lib.hid (stS_eq (z := z) e1)
        have b1 : ((k : Int) == q) = true := by rw [beq_iff_eq]; exact e1
        clear e1
        by_cases e2 : seg z k ≤ t ∧ t < seg z k + cutT (z k 1)
        · have I : InS z t k := ⟨e2.1, by rw [seg_succ]; exact e2.2⟩
          have A1 := Lib.hid (atV_yes I)
          have A2 := Lib.hid (atF_succ_yes I)
          obtain ⟨e3, e4⟩ := e2
          clear I
          go_wp2_with (go_at_call 19; refine (wcut_any _ _).mono ?_; rintro e w1 ⟨rfl, rfl⟩)
          go_round
          case rel => exact ⟨k + 1, by omega, by go_num, vint SS.out.symm, vint (by rw [A1.out]), vbool A2.out.symm, vint S1.out.symm⟩
          case measure => simp [intOf]; omega
        · have I : ¬ InS z t k := fun x => e2 ⟨x.1, by have := x.2; rw [seg_succ] at this; exact this⟩
          have A1 := Lib.hid (atV_no I)
          have A2 := Lib.hid (atF_succ_no I)
          clear I
          by_cases e3 : seg z k ≤ t
          · have e4 : ¬ t < seg z k + cutT (z k 1) := fun x => e2 ⟨e3, x⟩
            clear e2
            go_wp2_with (go_at_call 19; refine (wcut_any _ _).mono ?_; rintro e w1 ⟨rfl, rfl⟩)
            go_round
            case rel => exact ⟨k + 1, by omega, by go_num, vint SS.out.symm, vint (by rw [A1.out, H1.out]), vbool (by rw [A2.out, H2.out]), vint S1.out.symm⟩
            case measure => simp [intOf]; omega
          · clear e2
            go_wp2_with (go_at_call 19; refine (wcut_any _ _).mono ?_; rintro e w1 ⟨rfl, rfl⟩)
            go_round
            case rel => exact ⟨k + 1, by omega, by go_num, vint SS.out.symm, vint (by rw [A1.out, H1.out]), vbool (by rw [A2.out, H2.out]), vint S1.out.symm⟩
            case measure => simp [intOf]; omega
      · have S1 := Lib.hid (stS_ne (z := z) e1)
        have b1 : ((k : Int) == q) = false := by rw [beq_eq_false_iff_ne]; exact e1
        clear e1
        by_cases e2 : seg z k ≤ t ∧ t < seg z k + cutT (z k 1)
        · have I : InS z t k := ⟨e2.1, by rw [seg_succ]; exact e2.2⟩
          have A1 := Lib.hid (atV_yes I)
          have A2 := Lib.hid (atF_succ_yes I)
          obtain ⟨e3, e4⟩ := e2
          clear I
          go_wp2_with (go_at_call 19; refine (wcut_any _ _).mono ?_; rintro e w1 ⟨rfl, rfl⟩)
          go_round
          case rel => exact ⟨k + 1, by omega, by go_num, vint SS.out.symm, vint (by rw [A1.out]), vbool A2.out.symm, vint (by rw [S1.out, H3.out])⟩
          case measure => simp [intOf]; omega
        · have I : ¬ InS z t k := fun x => e2 ⟨x.1, by have := x.2; rw [seg_succ] at this; exact this⟩
          have A1 := Lib.hid (atV_no I)
          have A2 := Lib.hid (atF_succ_no I)
          clear I
          by_cases e3 : seg z k ≤ t
          · have e4 : ¬ t < seg z k + cutT (z k 1) := fun x => e2 ⟨e3, x⟩
            clear e2
            go_wp2_with (go_at_call 19; refine (wcut_any _ _).mono ?_; rintro e w1 ⟨rfl, rfl⟩)
            go_round
            case rel => exact ⟨k + 1, by omega, by go_num, vint SS.out.symm, vint (by rw [A1.out, H1.out]), vbool (by rw [A2.out, H2.out]), vint (by rw [S1.out, H3.out])⟩
            case measure => simp [intOf]; omega
          · clear e2
            go_wp2_with (go_at_call 19; refine (wcut_any _ _).mono ?_; rintro e w1 ⟨rfl, rfl⟩)
            go_round
            case rel => exact ⟨k + 1, by omega, by go_num, vint SS.out.symm, vint (by rw [A1.out, H1.out]), vbool (by rw [A2.out, H2.out]), vint (by rw [S1.out, H3.out])⟩
            case measure => simp [intOf]; omega
    · obtain rfl : k = n := by omega
      have CA' := CA.out
      have CS' := CS.out
      have CT' := CT.out
      rw [hav, hfv] at CA'
      rw [hsv] at CS'
      obtain ⟨tv, htv⟩ : ∃ x, seg z k = x := ⟨_, rfl⟩
      rw [htv] at CT' ⊢
      obtain ⟨xv, hxv⟩ : ∃ x : Int, (av : Int) = x := ⟨_, rfl⟩
      rw [hxv] at CA' ⊢
      have KA := Lib.hid CA'
      have KS := Lib.hid CS'
      have KT := Lib.hid CT'
      clear CA CS CT CA' CS' CT' hav hfv hsv htv hxv sb sc
      have q1 : (fv == fv) = true := by simp
      have q2 : (xv == xv) = true := by simp
      have q3 : (sv == sv) = true := by simp
      have q4 : (tv == tv) = true := by simp
      by_cases e1 : 0 ≤ q ∧ q < k
      · have e2 : stF k q = true := decide_eq_true e1
        have E2 := Lib.hid e2
        obtain ⟨e3, e4⟩ := e1
        clear e2
        go_wp2_with (first
          | (go_at_call 20; refine (KA.out _ (Below.refl _ _)).mono ?_; rintro e w1 ⟨rfl, hb1⟩)
          | (go_at_call 21; refine (KS.out _ hb1).mono ?_; rintro e w2 ⟨rfl, hb2⟩; rw [E2.out]; have hb2 := hb1.trans (Joins.below_le hb2 hb1.size))
          | (go_at_call 22; refine (KT.out _ hb2).mono ?_; rintro e w3 ⟨rfl, hb3⟩; have hb3 := hb2.trans (Joins.below_le hb3 hb2.size))
          | (go_at_call 23; refine (walive _).mono ?_; rintro e w4 ⟨rfl, hb4⟩))
        go_ret
        exact ⟨rfl, hb3.trans (Joins.below_le hb4 hb3.size)⟩
      · have e2 : stF k q = false := decide_eq_false e1
        have E2 := Lib.hid e2
        clear e2
        by_cases e3 : 0 ≤ q
        · have e4 : ¬ q < k := fun x => e1 ⟨e3, x⟩
          have e5 : decide (q < (k : Int)) = false := decide_eq_false e4
          clear e1
          go_wp2_with (first
            | (go_at_call 20; refine (KA.out _ (Below.refl _ _)).mono ?_; rintro e w1 ⟨rfl, hb1⟩)
            | (go_at_call 21; refine (KS.out _ hb1).mono ?_; rintro e w2 ⟨rfl, hb2⟩; rw [E2.out]; have hb2 := hb1.trans (Joins.below_le hb2 hb1.size))
            | (go_at_call 22; refine (KT.out _ hb2).mono ?_; rintro e w3 ⟨rfl, hb3⟩; have hb3 := hb2.trans (Joins.below_le hb3 hb2.size))
            | (go_at_call 23; refine (walive _).mono ?_; rintro e w4 ⟨rfl, hb4⟩))
          go_ret
          exact ⟨rfl, hb3.trans (Joins.below_le hb4 hb3.size)⟩
        · clear e1
          go_wp2_with (first
            | (go_at_call 20; refine (KA.out _ (Below.refl _ _)).mono ?_; rintro e w1 ⟨rfl, hb1⟩)
            | (go_at_call 21; refine (KS.out _ hb1).mono ?_; rintro e w2 ⟨rfl, hb2⟩; rw [E2.out]; have hb2 := hb1.trans (Joins.below_le hb2 hb1.size))
            | (go_at_call 22; refine (KT.out _ hb2).mono ?_; rintro e w3 ⟨rfl, hb3⟩; have hb3 := hb2.trans (Joins.below_le hb3 hb2.size))
            | (go_at_call 23; refine (walive _).mono ?_; rintro e w4 ⟨rfl, hb4⟩))
          go_ret
          exact ⟨rfl, hb3.trans (Joins.below_le hb4 hb3.size)⟩
theorem walk {A : Option Addr} {c n : Nat} {z : Nat → Nat → Int} {t q : Int} {w : World} (hc : n ≤ c) (hm : c ≤ maxLen) (hr : RdZ w 3 A n z) (_ : A = none → c = 0) (w1 : (Lit.int .i64 t).wf = true) (w2 : (Lit.int .i64 q).wf = true) :
    Calls Try.prog 5 #[.slice A n c, .int .i64 t, .int .i64 q] w fun e w' => e = .returned (.bool true) ∧ Below w.heap.size w w' := by
  by_cases hn : n ≤ 30
  · exact walk_small w hc hm hr hn
  · unfold maxLen at hm
    have h : 30 < n := by omega
    go_enter Try.func5, Try.ntmps5
    go_wp2_with fail
    go_ret
    exact ⟨rfl, Below.refl _ _⟩

end Go.Proofs.Ytjokekohmncmkac.whenTells
