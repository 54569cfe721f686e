/- The walk of ZoneWeighs: it answers true for every input, and leaves all old blocks as they were. No condition. -/
import Derived.Test.YtbjcigkakeffmabRows
import Derived.Test.YtbjcigkakeffmabRowKit
import Derived.Test.YtbjcigkakeffmabRowKit
import Derived.Test.YtbjcigkakeffmabRowS
import Derived.Test.YtbjcigkakeffmabRowZ
import Derived.Test.YtbjcigkakeffmabSlicesEq
import Derived.Test.YtbjcigkakeffmabSlicesEqM
import Derived.Test.YtbjcigkakeffmabRowL
import Derived.Test.YtbjcigkakeffmabRowM
import Derived.Test.YtbjcigkakeffmabMakeI
import Derived.Test.YtbjcigkakeffmabBlocks
import Derived.Test.YtbjcigkakeffmabZoneMath
import Derived.Test.YtbjcigkakeffmabZoneA
import Derived.Test.YtbjcigkakeffmabZoneB
import Derived.Test.YtbjcigkakeffmabZoneC
import Derived.Test.YtbjcigkakeffmabZoneD
import Derived.WalkKit
import Derived.ProofKit
import Derived.OpenShut
import Derived.Deep.QuietTactic
import Derived.BigQuiet
import Derived.Lib.SmallJoins
import Derived.Lib.Hide
import Derived.WalkSpells
import Derived.WalkLawsBesides
import Derived.OwnWalk
import Derived.BigRegion
import Derived.Deep.LoopGhost
import Derived.IntWalk
namespace Go.Proofs.Ytbjcigkakeffmab.zoneWeighs
open Go.ChangeShapes Go.WideShapes Go.ChangeAt Go.RowKit Go.Joins
set_option linter.unusedSimpArgs false
set_option linter.unusedVariables false

theorem fs_step (z : Nat → Nat → Int) (f : Int) (k : Nat) : fsA z f (k + 1) = if fsA z f k < 0 ∧ hasZ (z k 0) (z k 1) f = true then (k : Int) else fsA z f k := rfl
set_option maxRecDepth 100000 in
set_option maxHeartbeats 8000000 in
theorem walk_f (A B : Option Addr) (n c m d : Nat) (zs : List Int) (z : Nat → Nat → Int) (f : Int) (w : World) (hn : zs.length = n) (hl : n ≤ 9223372036854775807) (hm : m ≤ 9223372036854775807) (hr : RdI w .i64 A zs) (hz : RdZ w 2 B m z) :
    Calls Try.prog 4 #[.slice A n c, .slice B m d, .int .i64 f] w fun e w' => e = .returned (.bool true) ∧ Below w.heap.size w w' := by
  rcases (show 200 < n ∨ (n ≤ 200 ∧ 60 < m) ∨ (n ≤ 200 ∧ m ≤ 60) by omega) with h0 | ⟨h0, h1⟩ | ⟨h0, h1⟩
  · have i0 : 200 < (n : Int) := by omega
    clear hr hz
    go_enter Try.func4, Try.ntmps4
    go_wp2_with fail
    go_ret
    exact ⟨rfl, Below.refl _ _⟩
  · have i0 : (n : Int) ≤ 200 := by omega
    have i1 : 60 < (m : Int) := by omega
    clear hr hz
    go_enter Try.func4, Try.ntmps4
    go_wp2_with fail
    go_ret
    exact ⟨rfl, Below.refl _ _⟩
  · have i0 : (n : Int) ≤ 200 := by omega
    have i1 : (m : Int) ≤ 60 := by omega
    have HR := Lib.hid hr
    have HZ := Lib.hid hz
    have HN := Lib.hid hn
    have JW := Lib.hid (fun a b w hr => zweigh_any A c n zs a b w hn hl hr)
    have JO := Lib.hid (fun w hz => zof_any B d m z f w hm hz)
    clear hr hz hn
    go_enter Try.func4, Try.ntmps4
    go_wp2_with fail
    go_loopg [7, 8] m (fun g v i wr => ∃ k : Nat, k ≤ m ∧ g = m - k ∧ i = .int .i64 k ∧ v = .int .i64 (fsA z f k) ∧ Below w.heap.size w wr)
    case atStart => exact ⟨0, by omega, rfl, rfl, rfl, Below.refl _ _⟩
    case round =>
      obtain ⟨k, hk, rfl, rfl, rfl, hb⟩ := hrel
      rename World => w2
      have EE := Lib.hid hb
      clear hb
      by_cases h : k < m
      · obtain ⟨b, off, rfl, hlt, hcl⟩ := rdZ_row (HZ.out.kept EE.out) (by omega) (by omega)
        have c0 : w2.cell? ⟨b, off + k * 2, none⟩ = some (.int .i64 (z k 0)) := hcl k 0 h (by omega)
        have c1 : w2.cell? ⟨b, off + k * 2 + 1, none⟩ = some (.int .i64 (z k 1)) := hcl k 1 h (by omega)
        have FS := Lib.hid (fs_step z f k)
        obtain ⟨p, hp⟩ : ∃ p, z k 0 = p := ⟨_, rfl⟩
        obtain ⟨q, hq⟩ : ∃ p, z k 1 = p := ⟨_, rfl⟩
        rw [hp] at c0
        rw [hq] at c1
        have HP := Lib.hid hp; have HQ := Lib.hid hq
        have kI : (k : Int) < (m : Int) := by omega
        have k0 : (0 : Int) ≤ (k : Int) := by omega
        clear hcl hp hq
        go_wp2_with fail
        go_loopg [9, 10] n (fun g s i wr => ∃ t : Nat, t ≤ n ∧ g = n - t ∧ i = .int .i64 t ∧ s = .int .i64 (wgA zs p q t) ∧ wr = w2)
        case atStart => exact ⟨0, by omega, rfl, rfl, rfl, rfl⟩
        case round =>
          obtain ⟨t, ht, rfl, rfl, rfl, rfl⟩ := hrel
          by_cases h2 : t < n
          · obtain ⟨bb, oo, rfl, hltL, hc⟩ := rdI_row (HR.out.kept EE.out) (by have := HN.out; omega)
            have ck := hc t (by have := HN.out; omega)
            obtain ⟨zv, hzv⟩ : ∃ x, zat zs t = x := ⟨_, rfl⟩
            have HZV := Lib.hid hzv
            rw [hzv] at ck
            obtain ⟨S, hS⟩ : ∃ x, wgA zs p q t = x := ⟨_, rfl⟩
            have HSV := Lib.hid hS
            rw [hS]
            have tI : (t : Int) < (n : Int) := by omega
            have t0 : (0 : Int) ≤ (t : Int) := by omega
            clear hc hzv hS
            rcases (show (t : Int) < p ∨ (p ≤ (t : Int) ∧ (t : Int) < q) ∨ (p ≤ (t : Int) ∧ q ≤ (t : Int)) by omega) with g0 | ⟨g0, g1⟩ | ⟨g0, g1⟩
            · have U : Hid (wgA zs p q (t + 1) = S) := Lib.hid (by rw [wg_no (hasZ_no (.inl g0)), HSV.out])
              have d0 : decide (p ≤ (t : Int)) = false := decide_eq_false (by omega)
              go_wp2_with fail
              go_roundg (n - (t + 1))
              case measure => omega
              case rel => exact ⟨t + 1, by omega, rfl, by go_num, by rw [U.out], rfl⟩
            · have U : Hid (wgA zs p q (t + 1) = wrap64 (S + zv)) := Lib.hid (by rw [wg_yes (hasZ_yes g0 g1), HSV.out, HZV.out])
              have d0 : decide (p ≤ (t : Int)) = true := decide_eq_true g0
              have d1 : decide ((t : Int) < q) = true := decide_eq_true g1
              go_wp2_with fail
              go_roundg (n - (t + 1))
              case measure => omega
              case rel => exact ⟨t + 1, by omega, rfl, by go_num, by rw [U.out], rfl⟩
            · have U : Hid (wgA zs p q (t + 1) = S) := Lib.hid (by rw [wg_no (hasZ_no (.inr g1)), HSV.out])
              have d0 : decide (p ≤ (t : Int)) = true := decide_eq_true g0
              have d1 : decide ((t : Int) < q) = false := decide_eq_false (by omega)
              go_wp2_with fail
              go_roundg (n - (t + 1))
              case measure => omega
              case rel => exact ⟨t + 1, by omega, rfl, by go_num, by rw [U.out], rfl⟩
          · obtain rfl : t = n := by omega
            have ht' : ¬ ((t : Int) < t) := by omega
            obtain ⟨S, hS⟩ : ∃ x, wgA zs p q t = x := ⟨_, rfl⟩
            have KW := fun w hr => JW.out p q w hr
            simp only [hS] at KW ⊢
            have HKW := Lib.hid KW
            have qs : (S != S) = false := by simp
            obtain ⟨v, hv⟩ : ∃ x, fsA z f k = x := ⟨_, rfl⟩
            have HF := FS.out
            rw [hv, HP.out, HQ.out] at HF
            simp only [hv]
            clear KW hS hv FS
            have VY : v < 0 → hasZ p q f = true → Hid (fsA z f (k + 1) = k) := fun a b => Lib.hid (HF.trans (if_pos ⟨a, b⟩))
            have VN : (0 ≤ v ∨ hasZ p q f = false) → Hid (fsA z f (k + 1) = v) := fun a => Lib.hid (HF.trans (if_neg (fun hh => by
              rcases a with a | a
              · omega
              · rw [a] at hh; cases hh.2)))
            clear HF
            have f0 := c0
            have f1 := c1
            clear c0 c1
            go_wp2_with fail
            refine (HKW.out _ (HR.out.kept EE.out)).mono ?_
            rintro e w3 ⟨rfl, hb3⟩
            have c0 := hb3.cell (p := ⟨b, off + k * 2, none⟩) hlt |>.trans f0
            have c1 := hb3.cell (p := ⟨b, off + k * 2 + 1, none⟩) hlt |>.trans f1
            have E3 := Lib.hid (EE.out.trans (hb3.mono EE.out.size))
            clear hb3 f0 f1
            rcases (show 0 ≤ v ∨ (v < 0 ∧ f < p) ∨ (v < 0 ∧ p ≤ f ∧ f < q) ∨ (v < 0 ∧ p ≤ f ∧ q ≤ f) by omega) with g0 | ⟨g0, g1⟩ | ⟨g0, g1, g2⟩ | ⟨g0, g1, g2⟩
            · have U := VN (.inl g0)
              have d0 : decide (v < 0) = false := decide_eq_false (by omega)
              clear VY VN
              go_wp2_with fail
              go_roundg (m - (k + 1))
              case measure => omega
              case rel => exact ⟨k + 1, by omega, rfl, by go_num, by rw [U.out], E3.out⟩
            · have U := VN (.inr (hasZ_no (.inl g1)))
              have d0 : decide (v < 0) = true := decide_eq_true g0
              have d1 : decide (p ≤ f) = false := decide_eq_false (by omega)
              clear VY VN
              go_wp2_with fail
              go_roundg (m - (k + 1))
              case measure => omega
              case rel => exact ⟨k + 1, by omega, rfl, by go_num, by rw [U.out], E3.out⟩
            · have U := VY g0 (hasZ_yes g1 g2)
              have d0 : decide (v < 0) = true := decide_eq_true g0
              have d1 : decide (p ≤ f) = true := decide_eq_true g1
              have d2 : decide (f < q) = true := decide_eq_true g2
              clear VY VN
              go_wp2_with fail
              go_roundg (m - (k + 1))
              case measure => omega
              case rel => exact ⟨k + 1, by omega, rfl, by go_num, by rw [U.out], E3.out⟩
            · have U := VN (.inr (hasZ_no (.inr g2)))
              have d0 : decide (v < 0) = true := decide_eq_true g0
              have d1 : decide (p ≤ f) = true := decide_eq_true g1
              have d2 : decide (f < q) = false := decide_eq_false (by omega)
              clear VY VN
              go_wp2_with fail
              go_roundg (m - (k + 1))
              case measure => omega
              case rel => exact ⟨k + 1, by omega, rfl, by go_num, by rw [U.out], E3.out⟩
      · obtain rfl : k = m := by omega
        have hk' : ¬ ((k : Int) < k) := by omega
        have KO := fun w hz => JO.out w hz
        obtain ⟨v, hv⟩ : ∃ x, fsA z f k = x := ⟨_, rfl⟩
        simp only [hv] at KO ⊢
        have HKO := Lib.hid KO
        have qv : (v == v) = true := by simp
        clear KO hv
        go_wp2_with fail
        refine (HKO.out _ (HZ.out.kept EE.out)).mono ?_
        rintro e w3 ⟨rfl, hb3⟩
        have E3 := Lib.hid (EE.out.trans (hb3.mono EE.out.size))
        clear hb3
        go_wp2_with fail
        refine (zalive _).mono ?_
        rintro e w4 ⟨rfl, hb4⟩
        go_wp2_with fail
        go_ret
        exact ⟨rfl, E3.out.trans (hb4.mono E3.out.size)⟩
theorem walk {A : Option Addr} {c : Nat} {zs : List Int} {B : Option Addr} {d m : Nat} {z : Nat → Nat → Int} {f : Int} {w : World} (hl : zs.length ≤ c) (hm : c ≤ maxLen) (hr : RdI w .i64 A zs) (hk : m ≤ d) (hd : d ≤ maxLen) (hz : RdZ w 2 B m z) (_ : B = none → d = 0) (hf : (Lit.int .i64 f).wf = true) :
    Calls Try.prog 4 #[.slice A zs.length c, .slice B m d, .int .i64 f] w fun e w' => e = .returned (.bool true) ∧ Below w.heap.size w w' := by
  unfold maxLen at hm hd
  exact walk_f A B zs.length c m d zs z f w rfl (by omega) (by omega) hr hz

end Go.Proofs.Ytbjcigkakeffmab.zoneWeighs
