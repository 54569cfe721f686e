/- The walk of ZoneCuts: it answers true for every input, and leaves all old blocks as they were. No condition. -/
import Derived.Test.YtbjcigkakeffmabRows
import Derived.Test.YtbjcigkakeffmabRowKit
import Derived.Test.YtbjcigkakeffmabRowKit
import Derived.Test.YtbjcigkakeffmabRowS
import Derived.Test.YtbjcigkakeffmabRowZ
import Derived.Test.YtbjcigkakeffmabSlicesEq
import Derived.Test.YtbjcigkakeffmabSlicesEqM
import Derived.Test.YtbjcigkakeffmabRowL
import Derived.Test.YtbjcigkakeffmabRowM
import Derived.Test.YtbjcigkakeffmabMakeI
import Derived.Test.YtbjcigkakeffmabBlocks
import Derived.Test.YtbjcigkakeffmabAtKit
import Derived.Test.YtbjcigkakeffmabZoneMath
import Derived.Test.YtbjcigkakeffmabZoneA
import Derived.Test.YtbjcigkakeffmabZoneB
import Derived.Test.YtbjcigkakeffmabZoneC
import Derived.Test.YtbjcigkakeffmabZoneD
import Derived.Test.YtbjcigkakeffmabZoneF
import Derived.WalkKit
import Derived.ProofKit
import Derived.OpenShut
import Derived.Deep.QuietTactic
import Derived.BigQuiet
import Derived.Lib.SmallJoins
import Derived.Lib.Hide
import Derived.WalkSpells
import Derived.WalkLawsBesides
import Derived.Deep.RegionHeld3
import Derived.OwnWalk
import Derived.BigRegion
import Derived.Deep.LoopGhost
import Derived.IntWalk
namespace Go.Proofs.Ytbjcigkakeffmab.zoneCuts
open Go.ChangeShapes Go.WideShapes Go.ChangeAt Go.RowKit Go.Joins
set_option linter.unusedSimpArgs false
set_option linter.unusedVariables false

def RtL (Q : Prop) (w : World) (e : Ending) (w' : World) : Prop := ∃ b, e = .returned (.bool b) ∧ (b = true ↔ Q) ∧ w = w'
set_option maxRecDepth 100000 in
set_option maxHeartbeats 4000000 in
theorem lright_any (A : Option Addr) (c n : Nat) (zs : List Int) (k : Int) (w : World) (hn : zs.length = n) (hl : n ≤ 9223372036854775807) (hr : RdI w .i64 A zs) :
    Calls Try.prog 5 #[.slice A n c, .int .i64 k] w (RtL (RgZ zs n k) w) := by
  have NO : (¬ RgZ zs n k) → Hid (∀ e, e = Ending.returned (.bool false) → RtL (RgZ zs n k) w e w) := fun h => Lib.hid fun e he => ⟨false, he, ⟨(fun h' => by cases h'), fun h' => absurd h' h⟩, rfl⟩
  have YES : Hid (RgZ zs n k → ∀ e, e = Ending.returned (.bool true) → RtL (RgZ zs n k) w e w) := Lib.hid fun h e he => ⟨true, he, ⟨fun _ => h, fun _ => rfl⟩, rfl⟩
  rcases (show n = 0 ∨ (0 < n ∧ 128 < n) ∨ (0 < n ∧ n ≤ 128 ∧ k < 1) ∨ (0 < n ∧ n ≤ 128 ∧ 1 ≤ k) by omega) with h | ⟨h, h1⟩ | ⟨h, h1, h2⟩ | ⟨h, h1, h2⟩
  · have F := NO (fun q => by have := q.1; omega)
    clear NO YES hr
    subst h
    go_enter Try.func5, Try.ntmps5
    go_wp2_with fail
    go_ret
    exact F.out _ rfl
  · have F := NO (fun q => by have := q.2.1; omega)
    have d0 : decide ((n : Int) < 1) = false := decide_eq_false (by omega)
    have i0 : 1 ≤ (n : Int) := by omega
    have i1 : 128 < (n : Int) := by omega
    clear NO YES hr
    go_enter Try.func5, Try.ntmps5
    go_wp2_with fail
    go_ret
    exact F.out _ rfl
  · have F := NO (fun q => by have := q.2.2.1; omega)
    have d0 : decide ((n : Int) < 1) = false := decide_eq_false (by omega)
    have d1 : decide (128 < (n : Int)) = false := decide_eq_false (by omega)
    have i0 : 1 ≤ (n : Int) := by omega
    have i1 : (n : Int) ≤ 128 := by omega
    clear NO YES hr
    go_enter Try.func5, Try.ntmps5
    go_wp2_with fail
    go_ret
    exact F.out _ rfl
  · have d0 : decide ((n : Int) < 1) = false := decide_eq_false (by omega)
    have d1 : decide (128 < (n : Int)) = false := decide_eq_false (by omega)
    have d2 : decide (k < 1) = false := decide_eq_false (by omega)
    have i0 : 1 ≤ (n : Int) := by omega
    have i1 : (n : Int) ≤ 128 := by omega
    have HR := Lib.hid hr
    have HN := Lib.hid hn
    have NOh := Lib.hid NO
    clear NO hr hn
    go_enter Try.func5, Try.ntmps5
    go_wp2_with fail
    go_loopg [5] n (fun g i wr => ∃ j : Nat, j ≤ n ∧ g = n - j ∧ i = .int .i64 j ∧ Hid (∀ q, q < j → 0 ≤ zat zs q ∧ zat zs q ≤ 1048576) ∧ wr = w)
    case atStart => exact ⟨0, by omega, rfl, rfl, Lib.hid fun q hq => absurd hq (by omega), rfl⟩
    case round =>
      obtain ⟨j, hj, rfl, rfl, hA, rfl⟩ := hrel
      by_cases hjn : j < n
      · obtain ⟨bb, oo, rfl, hlt, hc⟩ := rdI_row HR.out (by have := HN.out; omega)
        have ck := hc j (by have := HN.out; omega)
        obtain ⟨x, hx⟩ : ∃ x, zat zs j = x := ⟨_, rfl⟩
        rw [hx] at ck
        have jI : (j : Int) < (n : Int) := by omega
        have j0 : (0 : Int) ≤ (j : Int) := by omega
        have HX := Lib.hid hx
        clear hc hx
        rcases (show x < 0 ∨ (0 ≤ x ∧ 1048576 < x) ∨ (0 ≤ x ∧ x ≤ 1048576) by omega) with g0 | ⟨g0, g1⟩ | ⟨g0, g1⟩
        · have F := NOh.out (fun q => by have := (q.2.2.2 j hjn).1; rw [HX.out] at this; omega)
          have e0 : decide (x < 0) = true := decide_eq_true g0
          clear NOh YES
          go_wp2_with fail
          go_ret
          exact F.out _ rfl
        · have F := NOh.out (fun q => by have := (q.2.2.2 j hjn).2; rw [HX.out] at this; omega)
          have e0 : decide (x < 0) = false := decide_eq_false (by omega)
          have e1 : decide (1048576 < x) = true := decide_eq_true g1
          clear NOh YES
          go_wp2_with fail
          go_ret
          exact F.out _ rfl
        · have e0 : decide (x < 0) = false := decide_eq_false (by omega)
          have e1 : decide (1048576 < x) = false := decide_eq_false (by omega)
          have hB : Hid (∀ q, q < j + 1 → 0 ≤ zat zs q ∧ zat zs q ≤ 1048576) := Lib.hid fun q hq => by
            by_cases e : q = j
            · rw [e, HX.out]; exact ⟨g0, g1⟩
            · exact hA.out q (by omega)
          go_wp2_with fail
          go_roundg (n - (j + 1))
          case measure => omega
          case rel => exact ⟨j + 1, by omega, rfl, by go_num, hB, rfl⟩
      · obtain rfl : j = n := by omega
        have hj' : ¬ ((j : Int) < j) := by omega
        have F := Lib.hid (YES.out ⟨by omega, h1, h2, hA.out⟩)
        clear NOh YES
        go_wp2_with fail
        go_ret
        exact F.out _ rfl
theorem fn_eq {l : Nat → Int} {n cnt : Nat} {M : Int} {z : Nat → Nat → Int} {zs : List Int} (h : Zones l n M cnt z) (hl : l = zat zs) (hz : ∀ i, i < n → 0 ≤ zat zs i ∧ zat zs i ≤ 1048576) (h1 : n ≤ 128) (M0 : 0 ≤ M) : mxA (fun i => wgA zs (z i 0) (z i 1) n) cnt = M := by
  subst hl
  have ev : ∀ i a b : Nat, i < cnt → z i 0 = a → z i 1 = b → a < b → b ≤ n → wgA zs (z i 0) (z i 1) n = wtZ (zat zs) a b := fun i a b _ h2 h3 h4 h5 => by rw [h2, h3]; exact wg_all hz h1 h4 h5
  have le := mx_le (f := fun i => wgA zs (z i 0) (z i 1) n) M0 cnt fun i hi => by
    obtain ⟨a, b, e1, e2, e3, e4, e5, e6, _⟩ := h.each i hi
    show wgA zs (z i 0) (z i 1) n ≤ M
    rw [ev i a b hi e1 e2 e3 e4]; exact e6
  obtain ⟨i, a, b, hi, e1, e2, e3⟩ := h.some
  obtain ⟨a', b', f1, f2, f3, f4, _⟩ := h.each i hi
  obtain rfl : a = a' := by rw [e1] at f1; omega
  obtain rfl : b = b' := by rw [e2] at f2; omega
  have ge := mx_ge (f := fun i => wgA zs (z i 0) (z i 1) n) cnt i hi
  have e : wgA zs (z i 0) (z i 1) n = wtZ (zat zs) a b := ev i a b hi e1 e2 f3 f4
  have ge' : wgA zs (z i 0) (z i 1) n ≤ mxA (fun i => wgA zs (z i 0) (z i 1) n) cnt := ge
  rw [e, e3] at ge'
  omega
set_option maxRecDepth 100000 in
set_option maxHeartbeats 16000000 in
theorem walk_f (A : Option Addr) (n c : Nat) (zs : List Int) (k : Int) (w : World) (hn : zs.length = n) (hl : n ≤ 9223372036854775807) (hr : RdI w .i64 A zs) :
    Calls Try.prog 3 #[.slice A n c, .int .i64 k] w fun e w' => e = .returned (.bool true) ∧ Below w.heap.size w w' := by
  have HR := Lib.hid hr
  have JR := Lib.hid (fun w hr => lright_any A c n zs k w hn hl hr)
  by_cases hq : RgZ zs n k
  · have JL := Lib.hid (fun w hr => zleast_ok A c n zs k w hn hl hr hq)
    have JC := Lib.hid (fun w hr => zct_ok A c n zs k w hn hl hr hq)
    have JW := Lib.hid (fun a b w hr => zweigh_any A c n zs a b w hn hl hr)
    have HQ := Lib.hid hq
    obtain ⟨ZN, CK⟩ := zones_of hq
    obtain ⟨_, M0, M1⟩ := ls_bd hq
    obtain ⟨q0, q1, q2, q3⟩ := hq
    obtain ⟨M, hM⟩ : ∃ M, lsZ zs n k = M := ⟨_, rfl⟩
    unfold CtR at JC
    simp only [hM] at JL JC
    rw [hM] at ZN CK M0 M1
    obtain ⟨cn, hcn⟩ : ∃ q, cnZ (zat zs) M n = q := ⟨_, rfl⟩
    obtain ⟨z, hz⟩ : ∃ q, zL (cutL (zat zs) M n) = q := ⟨_, rfl⟩
    simp only [hcn, hz] at JC
    rw [hcn, hz] at ZN
    rw [hcn] at CK
    have MX := fn_eq ZN rfl q3 q1 M0
    have WE : ∀ i a b : Nat, i < cn → z i 0 = a → z i 1 = b → a < b → b ≤ n → wgA zs (z i 0) (z i 1) n = wtZ (zat zs) a b := fun i a b _ h2 h3 h4 h5 => by rw [h2, h3]; exact wg_all q3 q1 h4 h5
    obtain ⟨f, hf⟩ : ∃ f : Nat → Int, (fun i => wgA zs (z i 0) (z i 1) n) = f := ⟨_, rfl⟩
    have FE : ∀ i, wgA zs (z i 0) (z i 1) n = f i := fun i => by rw [← hf]
    rw [hf] at MX
    have HWE : Hid (∀ i a b : Nat, i < cn → z i 0 = a → z i 1 = b → a < b → b ≤ n → f i = wtZ (zat zs) a b) := Lib.hid fun i a b h1 h2 h3 h4 h5 => by rw [← FE]; exact WE i a b h1 h2 h3 h4 h5
    have HFE := Lib.hid FE
    have HZN := Lib.hid ZN; have HMX := Lib.hid MX; have HQ3 := Lib.hid q3; have HN := Lib.hid hn
    have cpos := ZN.pos
    have cn128 : cn ≤ 128 := by
      have := (ZN.each (cn - 1) (by omega))
      have key : ∀ i, i < cn → (i : Int) ≤ z i 0 := fun i => by
        induction i with
        | zero => intro _; rw [ZN.first]; exact Int.le_refl _
        | succ i ih =>
          intro hi
          obtain ⟨a, b, e1, e2, e3, _⟩ := ZN.each i (by omega)
          have := ih (by omega)
          rw [ZN.chain i hi, e2]; rw [e1] at this; omega
      obtain ⟨a, b, e1, e2, e3, e4, _⟩ := this
      have := key (cn - 1) (by omega)
      rw [e1] at this; omega
    have cI : (cn : Int) ≤ k := CK
    have qm : (M == M) = true := by simp
    clear hr hn hM hcn hz ZN MX WE FE hf CK q3
    go_enter Try.func3, Try.ntmps3
    go_wp2_with fail
    refine (JR.out _ HR.out).mono ?_
    rintro e w3 ⟨b, rfl, hbq, rfl⟩
    obtain rfl : b = true := hbq.2 HQ.out
    clear hbq
    go_wp2_with fail
    refine (JL.out _ HR.out).mono ?_
    rintro e w1 ⟨rfl, hb⟩
    have E1 := Lib.hid hb
    clear hb
    go_wp2_with fail
    refine (JC.out _ (HR.out.kept E1.out)).mono ?_
    rintro e w2 ⟨A', c', rfl, g1, g2, g3, hb⟩
    have E2 := Lib.hid (E1.out.trans (hb.mono E1.out.size))
    have HZR := Lib.hid g3
    have HRL := Lib.hid (HR.out.kept E2.out)
    clear hb g1 g2 g3 E1
    obtain ⟨gb, go, rfl, hgb, hcl⟩ := rdZ_row HZR.out (by omega) (by omega)
    obtain ⟨t, ht⟩ : ∃ t, cn = t + 1 := ⟨cn - 1, by omega⟩
    have k0 : w2.cell? ⟨gb, go, none⟩ = some (.int .i64 0) := by
      have h := hcl 0 0 (by omega) (by omega)
      rw [HZN.out.first] at h
      rw [← h]
      try rw [Nat.zero_mul, Nat.add_zero]
    have k1 : w2.cell? ⟨gb, go + t * 2 + 1, none⟩ = some (.int .i64 n) := by
      have h := hcl t 1 (by omega) (by omega)
      have e := HZN.out.last
      rw [show cn - 1 = t by omega] at e
      rw [e] at h; exact h
    have d0 : decide ((cn : Int) < 1) = false := decide_eq_false (by omega)
    have d1 : decide (k < (cn : Int)) = false := decide_eq_false (by omega)
    have c0 : (0 : Int) < (cn : Int) := by omega
    have c1 : IntKind.i64.wrap ((cn : Int) - 1) = (cn : Int) - 1 := IntWalk.i64_in _ (by omega)
    have c2 : (0 : Int) ≤ (cn : Int) - 1 := by omega
    have c3 : (cn : Int) - 1 < (cn : Int) := by omega
    have c4 : ((cn : Int) - 1).toNat = t := by omega
    have c5 : (1 : Int) ≤ (cn : Int) := by omega
    have c6 : ((n : Int) != (n : Int)) = false := by simp
    have Ht := Lib.hid ht
    clear hcl ht
    go_wp2_with fail
    clear k0 k1 d0 d1 c1 c2 c3 c4 c5 c6
    go_loopg [9, 10, 11, 12] cn (fun g ws i w11 f12 wr => ∃ i' : Nat, i' ≤ cn ∧ g = cn - i' ∧ i = .int .i64 i' ∧ ws = .int .i64 (mxA f i') ∧ Below w2.heap.size w2 wr)
    case atStart => exact ⟨0, by omega, rfl, rfl, rfl, Below.refl _ _⟩
    case round =>
      obtain ⟨i, hi, rfl, rfl, rfl, hb⟩ := hrel
      rename World => w4
      have EE := Lib.hid hb
      clear hb
      by_cases h : i < cn
      · obtain ⟨a, b, e1, e2, e3, e4, e5, e6, e7⟩ := HZN.out.each i h
        obtain ⟨gb', go', eg, hlt, hcl⟩ := rdZ_row (HZR.out.kept EE.out) (by omega) (by omega)
        cases eg
        have k0 : w4.cell? ⟨gb, go + i * 2, none⟩ = some (.int .i64 a) := (hcl i 0 h (by omega)).trans (by rw [e1])
        have k1 : w4.cell? ⟨gb, go + i * 2 + 1, none⟩ = some (.int .i64 b) := (hcl i 1 h (by omega)).trans (by rw [e2])
        have WF := HWE.out i a b h e1 e2 e3 e4
        have KW := fun w hr => JW.out (a : Int) (b : Int) w hr
        have FEi := HFE.out i
        rw [e1, e2] at FEi
        simp only [FEi] at KW
        have MS : mxA f (i + 1) = max (mxA f i) (f i) := rfl
        obtain ⟨W, hW⟩ : ∃ W, f i = W := ⟨_, rfl⟩
        obtain ⟨mx, hmx⟩ : ∃ W, mxA f i = W := ⟨_, rfl⟩
        simp only [hW] at KW
        rw [hW] at WF MS
        rw [hmx] at MS ⊢
        have HKW := Lib.hid KW; have HMS := Lib.hid MS
        have HOF : Hid (∀ q : Nat, a ≤ q → q < b → fsA z (q : Int) cn = i) := Lib.hid fun q h1 h2 => zn_of HZN.out h (by rw [e1]; omega) (by rw [e2]; omega)
        have He1 := Lib.hid e1; have He2 := Lib.hid e2; have He7 := Lib.hid e7; have HWF := Lib.hid WF
        have iI : (i : Int) < (cn : Int) := by omega
        have i0 : (0 : Int) ≤ (i : Int) := by omega
        have a0 : (0 : Int) ≤ (a : Int) := by omega
        have a1 : (a : Int) < (b : Int) := by omega
        have a2 : (b : Int) ≤ (n : Int) := by omega
        have dab : decide ((b : Int) ≤ (a : Int)) = false := decide_eq_false (by omega)
        have dabN : decide (b ≤ a) = false := decide_eq_false (by omega)
        have HCL := Lib.hid hcl
        clear hcl e1 e2 e7 KW FEi hW hmx MS WF
        go_wp2_with fail
        refine (HKW.out _ (HRL.out.kept EE.out)).mono ?_
        rintro e v1 ⟨rfl, hb⟩
        have EV := Lib.hid (EE.out.trans (hb.mono EE.out.size))
        have HI := Lib.hid (At.next (at2 k0 k1) hb)
        clear k0 k1
        have k0 : v1.cell? ⟨gb, go + i * 2, none⟩ = some (.int .i64 a) := HI.out 0 _ rfl
        have k1 : v1.cell? ⟨gb, go + i * 2 + 1, none⟩ = some (.int .i64 b) := HI.out 1 _ rfl
        by_cases hmw : mx ≤ W
        · have hmax : max mx W = W := by omega
          have HMX2 := Lib.hid hmax
          have EE := EV
          clear hb
          by_cases hi0 : i = 0
          · have di : decide (0 < (i : Int)) = false := decide_eq_false (by omega)
            have di2 : (i : Int) ≤ 0 := by omega
            have diN : decide (0 < i) = false := decide_eq_false (by omega)
            have HI0 := Lib.hid hi0
            clear hi0
            go_wp2_with fail
            have sK : ∀ X, At X gb (go + i * 2) #[.int .i64 a, .int .i64 b] → (fun X => X.cell? ⟨gb, go + i * 2, none⟩ = some (.int .i64 a) ∧ X.cell? ⟨gb, go + i * 2 + 1, none⟩ = some (.int .i64 b)) X := fun X hI => ⟨hI 0 _ rfl, hI 1 _ rfl⟩
            have LI0 := Lib.hid (HI.out.drew)
            have E0 := Lib.hid (EE.out.drew)
            clear k0 k1
            refine wp_region_held_drew (S := (fun X => X.cell? ⟨gb, go + i * 2, none⟩ = some (.int .i64 a) ∧ X.cell? ⟨gb, go + i * 2 + 1, none⟩ = some (.int .i64 b))) (by kernel_rfl) (sK _ LI0.out) (fun hHeld => ?_)
            clear hHeld
            refine wpAnyH_take (i := 0) (v := ?_) rfl (by kernel_rfl) (by kernel_rfl) (by kernel_rfl) (fun _ _ _ h => h) (Or.inl ⟨by rfl, ?_⟩) (sK _ LI0.out) ?_
            rotate_left
            · (intro wS hSw; (try dsimp only at hSw); go_simp; try with_reducible rfl)
            simp only [Act.put, List.getElem_toArray, List.getElem_cons_zero, List.getElem_cons_succ, List.setIfInBounds_toArray, List.set_cons_zero, List.set_cons_succ]
            refine wpAnyH_take (i := 1) (v := ?_) rfl (by kernel_rfl) (by kernel_rfl) (by kernel_rfl) (fun _ _ _ h => h) (Or.inl ⟨by rfl, ?_⟩) (sK _ LI0.out) ?_
            rotate_left
            · (intro wS hSw; (try dsimp only at hSw); go_simp; try with_reducible rfl)
            simp only [Act.put, List.getElem_toArray, List.getElem_cons_zero, List.getElem_cons_succ, List.setIfInBounds_toArray, List.set_cons_zero, List.set_cons_succ]
            refine wpAnyH_take (i := 2) (v := ?_) rfl (by kernel_rfl) (by kernel_rfl) (by kernel_rfl) (fun _ _ _ h => h) (Or.inl ⟨by rfl, ?_⟩) (sK _ LI0.out) ?_
            rotate_left
            · (intro wS hSw; (try dsimp only at hSw); go_simp; try with_reducible rfl)
            simp only [Act.put, List.getElem_toArray, List.getElem_cons_zero, List.getElem_cons_succ, List.setIfInBounds_toArray, List.set_cons_zero, List.set_cons_succ]
            refine wpAnyH_take (i := 3) (v := ?_) rfl (by kernel_rfl) (by kernel_rfl) (by kernel_rfl) (fun _ _ _ h => h) (Or.inl ⟨by rfl, ?_⟩) (sK _ LI0.out) ?_
            rotate_left
            · (intro wS hSw; (try dsimp only at hSw); go_simp; try with_reducible rfl)
            simp only [Act.put, List.getElem_toArray, List.getElem_cons_zero, List.getElem_cons_succ, List.setIfInBounds_toArray, List.set_cons_zero, List.set_cons_succ]
            refine wpAnyH_take (i := 4) (v := ?_) rfl (by kernel_rfl) (by kernel_rfl) (by kernel_rfl) (fun _ _ _ h => h) (Or.inl ⟨by rfl, ?_⟩) (sK _ LI0.out) ?_
            rotate_left
            · (intro wS hSw; (try dsimp only at hSw); go_simp; try with_reducible rfl)
            simp only [Act.put, List.getElem_toArray, List.getElem_cons_zero, List.getElem_cons_succ, List.setIfInBounds_toArray, List.set_cons_zero, List.set_cons_succ]
            refine wpAnyH_take (i := 5) (v := ?_) rfl (by kernel_rfl) (by kernel_rfl) (by kernel_rfl) (fun _ _ _ h => h) (Or.inl ⟨by rfl, ?_⟩) (sK _ LI0.out) ?_
            rotate_left
            · (intro wS hSw; (try dsimp only at hSw); go_simp; try with_reducible rfl)
            simp only [Act.put, List.getElem_toArray, List.getElem_cons_zero, List.getElem_cons_succ, List.setIfInBounds_toArray, List.set_cons_zero, List.set_cons_succ]
            refine wpAnyH_take (i := 6) (v := ?_) rfl (by kernel_rfl) (by kernel_rfl) (by kernel_rfl) (fun _ _ _ h => h) (Or.inl ⟨by rfl, ?_⟩) (sK _ LI0.out) ?_
            rotate_left
            · (intro wS hSw; (try dsimp only at hSw); go_simp; try with_reducible rfl)
            simp only [Act.put, List.getElem_toArray, List.getElem_cons_zero, List.getElem_cons_succ, List.setIfInBounds_toArray, List.set_cons_zero, List.set_cons_succ]
            refine wpAnyH_take (i := 7) (v := ?_) rfl (by kernel_rfl) (by kernel_rfl) (by kernel_rfl) (fun _ _ _ h => h) (Or.inl ⟨by rfl, ?_⟩) (sK _ LI0.out) ?_
            rotate_left
            · (intro wS hSw; (try dsimp only at hSw); go_simp; try with_reducible rfl)
            simp only [Act.put, List.getElem_toArray, List.getElem_cons_zero, List.getElem_cons_succ, List.setIfInBounds_toArray, List.set_cons_zero, List.set_cons_succ]
            refine wpAnyH_take (i := 8) (v := ?_) rfl (by kernel_rfl) (by kernel_rfl) (by kernel_rfl) (fun _ _ _ h => h) (Or.inl ⟨by rfl, ?_⟩) (sK _ LI0.out) ?_
            rotate_left
            · (intro wS hSw; (try dsimp only at hSw); go_simp; try with_reducible rfl)
            simp only [Act.put, List.getElem_toArray, List.getElem_cons_zero, List.getElem_cons_succ, List.setIfInBounds_toArray, List.set_cons_zero, List.set_cons_succ]
            refine wpAnyH_take (i := 9) (v := ?_) rfl (by kernel_rfl) (by kernel_rfl) (by kernel_rfl) (fun _ _ _ h => h) (Or.inl ⟨by rfl, ?_⟩) (sK _ LI0.out) ?_
            rotate_left
            · (intro wS hSw; (try dsimp only at hSw); go_simp; try with_reducible rfl)
            simp only [Act.put, List.getElem_toArray, List.getElem_cons_zero, List.getElem_cons_succ, List.setIfInBounds_toArray, List.set_cons_zero, List.set_cons_succ]
            refine wpAnyH_take (i := 10) (v := ?_) rfl (by kernel_rfl) (by kernel_rfl) (by kernel_rfl) (fun _ _ _ h => h) (Or.inl ⟨by rfl, ?_⟩) (sK _ LI0.out) ?_
            rotate_left
            · (intro wS hSw; (try dsimp only at hSw); go_simp; try with_reducible rfl)
            simp only [Act.put, List.getElem_toArray, List.getElem_cons_zero, List.getElem_cons_succ, List.setIfInBounds_toArray, List.set_cons_zero, List.set_cons_succ]
            refine wpAnyH_take (i := 11) (v := ?_) rfl (by kernel_rfl) (by kernel_rfl) (by kernel_rfl) (fun _ _ _ h => h) (Or.inl ⟨by rfl, ?_⟩) (sK _ LI0.out) ?_
            rotate_left
            · (intro wS hSw; (try dsimp only at hSw); go_simp; try with_reducible rfl)
            simp only [Act.put, List.getElem_toArray, List.getElem_cons_zero, List.getElem_cons_succ, List.setIfInBounds_toArray, List.set_cons_zero, List.set_cons_succ]
            refine wpAnyH_take (i := 12) (v := ?_) rfl (by kernel_rfl) (by kernel_rfl) (by kernel_rfl) (fun _ _ _ h => h) (Or.inl ⟨by rfl, ?_⟩) (sK _ LI0.out) ?_
            rotate_left
            · (intro wS hSw; (try dsimp only at hSw); go_simp; try with_reducible rfl)
            simp only [Act.put, List.getElem_toArray, List.getElem_cons_zero, List.getElem_cons_succ, List.setIfInBounds_toArray, List.set_cons_zero, List.set_cons_succ]
            refine wpAnyH_take (i := 13) (v := ?_) rfl (by kernel_rfl) (by kernel_rfl) (by kernel_rfl) (fun _ _ _ h => h) (Or.inl ⟨by rfl, ?_⟩) (sK _ LI0.out) ?_
            rotate_left
            · (intro wS hSw; (try dsimp only at hSw); go_simp; try with_reducible rfl)
            simp only [Act.put, List.getElem_toArray, List.getElem_cons_zero, List.getElem_cons_succ, List.setIfInBounds_toArray, List.set_cons_zero, List.set_cons_succ]
            refine wpAnyH_take (i := 14) (v := ?_) rfl (by kernel_rfl) (by kernel_rfl) (by kernel_rfl) (fun _ _ _ h => h) (Or.inl ⟨by rfl, ?_⟩) (sK _ LI0.out) ?_
            rotate_left
            · (intro wS hSw; (try dsimp only at hSw); go_simp; try with_reducible rfl)
            simp only [Act.put, List.getElem_toArray, List.getElem_cons_zero, List.getElem_cons_succ, List.setIfInBounds_toArray, List.set_cons_zero, List.set_cons_succ]
            refine wpAnyH_take (i := 15) (v := undef) rfl (by kernel_rfl) (by kernel_rfl) (by kernel_rfl) (fun _ _ _ h => h) (Or.inr ⟨by kernel_rfl, rfl⟩) (sK _ LI0.out) ?_
            simp only [Act.put, List.getElem_toArray, List.getElem_cons_zero, List.getElem_cons_succ, List.setIfInBounds_toArray, List.set_cons_zero, List.set_cons_succ]
            refine wpAnyH_take (i := 16) (v := undef) rfl (by kernel_rfl) (by kernel_rfl) (by kernel_rfl) (fun _ _ _ h => h) (Or.inr ⟨by kernel_rfl, rfl⟩) (sK _ LI0.out) ?_
            simp only [Act.put, List.getElem_toArray, List.getElem_cons_zero, List.getElem_cons_succ, List.setIfInBounds_toArray, List.set_cons_zero, List.set_cons_succ]
            refine wpAnyH_take (i := 17) (v := undef) rfl (by kernel_rfl) (by kernel_rfl) (by kernel_rfl) (fun _ _ _ h => h) (Or.inr ⟨by kernel_rfl, rfl⟩) (sK _ LI0.out) ?_
            simp only [Act.put, List.getElem_toArray, List.getElem_cons_zero, List.getElem_cons_succ, List.setIfInBounds_toArray, List.set_cons_zero, List.set_cons_succ]
            refine wpAnyH_take (i := 18) (v := undef) rfl (by kernel_rfl) (by kernel_rfl) (by kernel_rfl) (fun _ _ _ h => h) (Or.inr ⟨by kernel_rfl, rfl⟩) (sK _ LI0.out) ?_
            simp only [Act.put, List.getElem_toArray, List.getElem_cons_zero, List.getElem_cons_succ, List.setIfInBounds_toArray, List.set_cons_zero, List.set_cons_succ]
            refine wpAnyH_take (i := 19) (v := undef) rfl (by kernel_rfl) (by kernel_rfl) (by kernel_rfl) (fun _ _ _ h => h) (Or.inr ⟨by kernel_rfl, rfl⟩) (sK _ LI0.out) ?_
            simp only [Act.put, List.getElem_toArray, List.getElem_cons_zero, List.getElem_cons_succ, List.setIfInBounds_toArray, List.set_cons_zero, List.set_cons_succ]
            refine wpAnyH_take (i := 20) (v := undef) rfl (by kernel_rfl) (by kernel_rfl) (by kernel_rfl) (fun _ _ _ h => h) (Or.inr ⟨by kernel_rfl, rfl⟩) (sK _ LI0.out) ?_
            simp only [Act.put, List.getElem_toArray, List.getElem_cons_zero, List.getElem_cons_succ, List.setIfInBounds_toArray, List.set_cons_zero, List.set_cons_succ]
            refine wpAnyH_take (i := 21) (v := undef) rfl (by kernel_rfl) (by kernel_rfl) (by kernel_rfl) (fun _ _ _ h => h) (Or.inr ⟨by kernel_rfl, rfl⟩) (sK _ LI0.out) ?_
            simp only [Act.put, List.getElem_toArray, List.getElem_cons_zero, List.getElem_cons_succ, List.setIfInBounds_toArray, List.set_cons_zero, List.set_cons_succ]
            refine wpAnyH_take (i := 22) (v := undef) rfl (by kernel_rfl) (by kernel_rfl) (by kernel_rfl) (fun _ _ _ h => h) (Or.inr ⟨by kernel_rfl, rfl⟩) (sK _ LI0.out) ?_
            simp only [Act.put, List.getElem_toArray, List.getElem_cons_zero, List.getElem_cons_succ, List.setIfInBounds_toArray, List.set_cons_zero, List.set_cons_succ]
            refine wpAnyH_take (i := 23) (v := undef) rfl (by kernel_rfl) (by kernel_rfl) (by kernel_rfl) (fun _ _ _ h => h) (Or.inr ⟨by kernel_rfl, rfl⟩) (sK _ LI0.out) ?_
            simp only [Act.put, List.getElem_toArray, List.getElem_cons_zero, List.getElem_cons_succ, List.setIfInBounds_toArray, List.set_cons_zero, List.set_cons_succ]
            refine wpAnyH_take (i := 24) (v := undef) rfl (by kernel_rfl) (by kernel_rfl) (by kernel_rfl) (fun _ _ _ h => h) (Or.inr ⟨by kernel_rfl, rfl⟩) (sK _ LI0.out) ?_
            simp only [Act.put, List.getElem_toArray, List.getElem_cons_zero, List.getElem_cons_succ, List.setIfInBounds_toArray, List.set_cons_zero, List.set_cons_succ]
            refine wpAnyH_take (i := 25) (v := undef) rfl (by kernel_rfl) (by kernel_rfl) (by kernel_rfl) (fun _ _ _ h => h) (Or.inr ⟨by kernel_rfl, rfl⟩) (sK _ LI0.out) ?_
            simp only [Act.put, List.getElem_toArray, List.getElem_cons_zero, List.getElem_cons_succ, List.setIfInBounds_toArray, List.set_cons_zero, List.set_cons_succ]
            refine wpAnyH_take (i := 26) (v := undef) rfl (by kernel_rfl) (by kernel_rfl) (by kernel_rfl) (fun _ _ _ h => h) (Or.inr ⟨by kernel_rfl, rfl⟩) (sK _ LI0.out) ?_
            simp only [Act.put, List.getElem_toArray, List.getElem_cons_zero, List.getElem_cons_succ, List.setIfInBounds_toArray, List.set_cons_zero, List.set_cons_succ]
            refine wpAnyH_take (i := 27) (v := undef) rfl (by kernel_rfl) (by kernel_rfl) (by kernel_rfl) (fun _ _ _ h => h) (Or.inr ⟨by kernel_rfl, rfl⟩) (sK _ LI0.out) ?_
            simp only [Act.put, List.getElem_toArray, List.getElem_cons_zero, List.getElem_cons_succ, List.setIfInBounds_toArray, List.set_cons_zero, List.set_cons_succ]
            refine wpAnyH_take (i := 28) (v := undef) rfl (by kernel_rfl) (by kernel_rfl) (by kernel_rfl) (fun _ _ _ h => h) (Or.inr ⟨by kernel_rfl, rfl⟩) (sK _ LI0.out) ?_
            simp only [Act.put, List.getElem_toArray, List.getElem_cons_zero, List.getElem_cons_succ, List.setIfInBounds_toArray, List.set_cons_zero, List.set_cons_succ]
            refine wpAnyH_take (i := 29) (v := undef) rfl (by kernel_rfl) (by kernel_rfl) (by kernel_rfl) (fun _ _ _ h => h) (Or.inr ⟨by kernel_rfl, rfl⟩) (sK _ LI0.out) ?_
            simp only [Act.put, List.getElem_toArray, List.getElem_cons_zero, List.getElem_cons_succ, List.setIfInBounds_toArray, List.set_cons_zero, List.set_cons_succ]
            refine wpAnyH_take (i := 30) (v := undef) rfl (by kernel_rfl) (by kernel_rfl) (by kernel_rfl) (fun _ _ _ h => h) (Or.inr ⟨by kernel_rfl, rfl⟩) (sK _ LI0.out) ?_
            simp only [Act.put, List.getElem_toArray, List.getElem_cons_zero, List.getElem_cons_succ, List.setIfInBounds_toArray, List.set_cons_zero, List.set_cons_succ]
            refine wpAnyH_take (i := 31) (v := undef) rfl (by kernel_rfl) (by kernel_rfl) (by kernel_rfl) (fun _ _ _ h => h) (Or.inr ⟨by kernel_rfl, rfl⟩) (sK _ LI0.out) ?_
            simp only [Act.put, List.getElem_toArray, List.getElem_cons_zero, List.getElem_cons_succ, List.setIfInBounds_toArray, List.set_cons_zero, List.set_cons_succ]
            refine wpAnyH_take (i := 32) (v := undef) rfl (by kernel_rfl) (by kernel_rfl) (by kernel_rfl) (fun _ _ _ h => h) (Or.inr ⟨by kernel_rfl, rfl⟩) (sK _ LI0.out) ?_
            simp only [Act.put, List.getElem_toArray, List.getElem_cons_zero, List.getElem_cons_succ, List.setIfInBounds_toArray, List.set_cons_zero, List.set_cons_succ]
            refine wpAnyH_take (i := 33) (v := undef) rfl (by kernel_rfl) (by kernel_rfl) (by kernel_rfl) (fun _ _ _ h => h) (Or.inr ⟨by kernel_rfl, rfl⟩) (sK _ LI0.out) ?_
            simp only [Act.put, List.getElem_toArray, List.getElem_cons_zero, List.getElem_cons_succ, List.setIfInBounds_toArray, List.set_cons_zero, List.set_cons_succ]
            refine wpAnyH_take (i := 34) (v := undef) rfl (by kernel_rfl) (by kernel_rfl) (by kernel_rfl) (fun _ _ _ h => h) (Or.inr ⟨by kernel_rfl, rfl⟩) (sK _ LI0.out) ?_
            simp only [Act.put, List.getElem_toArray, List.getElem_cons_zero, List.getElem_cons_succ, List.setIfInBounds_toArray, List.set_cons_zero, List.set_cons_succ]
            refine wpAnyH_take (i := 35) (v := undef) rfl (by kernel_rfl) (by kernel_rfl) (by kernel_rfl) (fun _ _ _ h => h) (Or.inr ⟨by kernel_rfl, rfl⟩) (sK _ LI0.out) ?_
            simp only [Act.put, List.getElem_toArray, List.getElem_cons_zero, List.getElem_cons_succ, List.setIfInBounds_toArray, List.set_cons_zero, List.set_cons_succ]
            refine wpAnyH_take (i := 36) (v := undef) rfl (by kernel_rfl) (by kernel_rfl) (by kernel_rfl) (fun _ _ _ h => h) (Or.inr ⟨by kernel_rfl, rfl⟩) (sK _ LI0.out) ?_
            simp only [Act.put, List.getElem_toArray, List.getElem_cons_zero, List.getElem_cons_succ, List.setIfInBounds_toArray, List.set_cons_zero, List.set_cons_succ]
            refine wpAnyH_take (i := 37) (v := undef) rfl (by kernel_rfl) (by kernel_rfl) (by kernel_rfl) (fun _ _ _ h => h) (Or.inr ⟨by kernel_rfl, rfl⟩) (sK _ LI0.out) ?_
            simp only [Act.put, List.getElem_toArray, List.getElem_cons_zero, List.getElem_cons_succ, List.setIfInBounds_toArray, List.set_cons_zero, List.set_cons_succ]
            refine wpAnyH_take (i := 38) (v := undef) rfl (by kernel_rfl) (by kernel_rfl) (by kernel_rfl) (fun _ _ _ h => h) (Or.inr ⟨by kernel_rfl, rfl⟩) (sK _ LI0.out) ?_
            simp only [Act.put, List.getElem_toArray, List.getElem_cons_zero, List.getElem_cons_succ, List.setIfInBounds_toArray, List.set_cons_zero, List.set_cons_succ]
            refine wpAnyH_take (i := 39) (v := undef) rfl (by kernel_rfl) (by kernel_rfl) (by kernel_rfl) (fun _ _ _ h => h) (Or.inr ⟨by kernel_rfl, rfl⟩) (sK _ LI0.out) ?_
            simp only [Act.put, List.getElem_toArray, List.getElem_cons_zero, List.getElem_cons_succ, List.setIfInBounds_toArray, List.set_cons_zero, List.set_cons_succ]
            refine wpAnyH_take (i := 40) (v := undef) rfl (by kernel_rfl) (by kernel_rfl) (by kernel_rfl) (fun _ _ _ h => h) (Or.inr ⟨by kernel_rfl, rfl⟩) (sK _ LI0.out) ?_
            simp only [Act.put, List.getElem_toArray, List.getElem_cons_zero, List.getElem_cons_succ, List.setIfInBounds_toArray, List.set_cons_zero, List.set_cons_succ]
            refine wpAnyH_take (i := 41) (v := undef) rfl (by kernel_rfl) (by kernel_rfl) (by kernel_rfl) (fun _ _ _ h => h) (Or.inr ⟨by kernel_rfl, rfl⟩) (sK _ LI0.out) ?_
            simp only [Act.put, List.getElem_toArray, List.getElem_cons_zero, List.getElem_cons_succ, List.setIfInBounds_toArray, List.set_cons_zero, List.set_cons_succ]
            refine wpAnyH_take (i := 42) (v := undef) rfl (by kernel_rfl) (by kernel_rfl) (by kernel_rfl) (fun _ _ _ h => h) (Or.inr ⟨by kernel_rfl, rfl⟩) (sK _ LI0.out) ?_
            simp only [Act.put, List.getElem_toArray, List.getElem_cons_zero, List.getElem_cons_succ, List.setIfInBounds_toArray, List.set_cons_zero, List.set_cons_succ]
            refine wpAnyH_take (i := 43) (v := undef) rfl (by kernel_rfl) (by kernel_rfl) (by kernel_rfl) (fun _ _ _ h => h) (Or.inr ⟨by kernel_rfl, rfl⟩) (sK _ LI0.out) ?_
            simp only [Act.put, List.getElem_toArray, List.getElem_cons_zero, List.getElem_cons_succ, List.setIfInBounds_toArray, List.set_cons_zero, List.set_cons_succ]
            refine wpAnyH_take (i := 44) (v := undef) rfl (by kernel_rfl) (by kernel_rfl) (by kernel_rfl) (fun _ _ _ h => h) (Or.inr ⟨by kernel_rfl, rfl⟩) (sK _ LI0.out) ?_
            simp only [Act.put, List.getElem_toArray, List.getElem_cons_zero, List.getElem_cons_succ, List.setIfInBounds_toArray, List.set_cons_zero, List.set_cons_succ]
            refine wpAnyH_take (i := 45) (v := undef) rfl (by kernel_rfl) (by kernel_rfl) (by kernel_rfl) (fun _ _ _ h => h) (Or.inr ⟨by kernel_rfl, rfl⟩) (sK _ LI0.out) ?_
            simp only [Act.put, List.getElem_toArray, List.getElem_cons_zero, List.getElem_cons_succ, List.setIfInBounds_toArray, List.set_cons_zero, List.set_cons_succ]
            refine wpAnyH_take (i := 46) (v := undef) rfl (by kernel_rfl) (by kernel_rfl) (by kernel_rfl) (fun _ _ _ h => h) (Or.inr ⟨by kernel_rfl, rfl⟩) (sK _ LI0.out) ?_
            simp only [Act.put, List.getElem_toArray, List.getElem_cons_zero, List.getElem_cons_succ, List.setIfInBounds_toArray, List.set_cons_zero, List.set_cons_succ]
            refine wpAnyH_take (i := 47) (v := ?_) rfl (by kernel_rfl) (by kernel_rfl) (by kernel_rfl) (fun _ _ _ h => h) (Or.inl ⟨by rfl, ?_⟩) (sK _ LI0.out) ?_
            rotate_left
            · (intro wS hSw; (try dsimp only at hSw); go_simp; try with_reducible rfl)
            simp only [Act.put, List.getElem_toArray, List.getElem_cons_zero, List.getElem_cons_succ, List.setIfInBounds_toArray, List.set_cons_zero, List.set_cons_succ]
            refine wpAnyH_take (i := 48) (v := ?_) rfl (by kernel_rfl) (by kernel_rfl) (by kernel_rfl) (fun _ _ _ h => h) (Or.inl ⟨by rfl, ?_⟩) (sK _ LI0.out) ?_
            rotate_left
            · (intro wS hSw; (try dsimp only at hSw); go_simp; try with_reducible rfl)
            simp only [Act.put, List.getElem_toArray, List.getElem_cons_zero, List.getElem_cons_succ, List.setIfInBounds_toArray, List.set_cons_zero, List.set_cons_succ]
            refine wpAnyH_done (by kernel_rfl) ?_ _
            have HI := LI0
            have EE := E0
            have kI0 : v1.drew.cell? ⟨gb, go + i * 2, none⟩ = some (.int .i64 a) := HI.out 0 _ rfl
            have kI1 : v1.drew.cell? ⟨gb, go + i * 2 + 1, none⟩ = some (.int .i64 b) := HI.out 1 _ rfl
            go_wp2_with fail
            go_loopg [12] (b - a) (fun g f12 wr => ∃ q : Nat, a ≤ q ∧ q ≤ b ∧ g = b - q ∧ f12 = .int .i64 q ∧ Below w2.heap.size w2 wr)
            case atStart => exact ⟨a, Nat.le_refl _, by omega, rfl, rfl, EE.out⟩
            case round =>
              obtain ⟨q, hq1, hq2, rfl, rfl, hb⟩ := hrel
              rename World => w5
              have EQ := Lib.hid hb
              clear hb
              obtain ⟨gb2, go2, eg, hlt2, hcl⟩ := rdZ_row (HZR.out.kept EQ.out) (by omega) (by omega)
              cases eg
              have m0 : w5.cell? ⟨gb, go + i * 2, none⟩ = some (.int .i64 a) := (hcl i 0 h (by omega)).trans (by rw [He1.out])
              have m1 : w5.cell? ⟨gb, go + i * 2 + 1, none⟩ = some (.int .i64 b) := (hcl i 1 h (by omega)).trans (by rw [He2.out])
              clear hcl
              by_cases hqb : q < b
              · have KO := fun w hz => zof_any (some ⟨gb, go, none⟩) c' cn z (q : Int) w (by omega) hz
                simp only [HOF.out q hq1 hqb] at KO
                have HKO := Lib.hid KO
                clear KO
                have qI : (q : Int) < (b : Int) := by omega
                have qn : ((i : Int) != (i : Int)) = false := by simp
                go_wp2_with fail
                refine (HKO.out _ (HZR.out.kept EQ.out)).mono ?_
                rintro e w6 ⟨rfl, hb⟩
                have E6 := Lib.hid (EQ.out.trans (hb.mono EQ.out.size))
                clear hb
                go_wp2_with fail
                go_roundg (b - (q + 1))
                case measure => omega
                case rel => exact ⟨q + 1, by omega, by omega, rfl, by go_num, E6.out⟩
              · obtain rfl : q = b := by omega
                have qI : ¬ ((q : Int) < (q : Int)) := by omega
                go_wp2_with fail
                go_roundg (cn - (i + 1))
                case measure => omega
                case rel => exact ⟨i + 1, by omega, rfl, by go_num, by rw [HMS.out, HMX2.out], EQ.out⟩
          · obtain ⟨t2, ht2⟩ : ∃ t2, i = t2 + 1 := ⟨i - 1, by omega⟩
            obtain ⟨a', b', f1, f2, f3, f4, f5, f6, f7⟩ := HZN.out.each t2 (by omega)
            have CH := HZN.out.chain t2 (by omega)
            rw [← ht2, He1.out, f2] at CH
            have ab : a = b' := by omega
            obtain ⟨gb3, go3, eg, hlt3, hcl⟩ := rdZ_row (HZR.out.kept EE.out) (by omega) (by omega)
            cases eg
            have HJ := Lib.hid (at2 (show v1.cell? ⟨gb, go + t2 * 2, none⟩ = some (.int .i64 a') from (hcl t2 0 (by omega) (by omega)).trans (by rw [f1])) (show v1.cell? ⟨gb, go + t2 * 2 + 1, none⟩ = some (.int .i64 a) from (hcl t2 1 (by omega) (by omega)).trans (by rw [f2, ab])))
            obtain ⟨lb, lo, rfl, hltl, hcc⟩ := rdI_row (HRL.out.kept EE.out) (by have := HN.out; omega)
            obtain ⟨la, hla⟩ : ∃ x, zat zs a = x := ⟨_, rfl⟩
            have HL := Lib.hid (at1 (show v1.cell? ⟨lb, lo + a, none⟩ = some (.int .i64 la) from by rw [← hla]; exact hcc a (by have := HN.out; omega)))
            have W2E := HWE.out t2 a' b' (by omega) f1 f2 f3 f4
            have FE2 := HFE.out t2
            rw [f1, f2] at FE2
            have KW2 := fun w hr => JW.out (a' : Int) (b' : Int) w hr
            simp only [FE2] at KW2
            have full := f7 (by omega)
            rw [← ab, hla] at full
            rw [← ab] at W2E KW2 f6 f5
            obtain ⟨W2, hW2⟩ : ∃ x, f t2 = x := ⟨_, rfl⟩
            simp only [hW2] at KW2
            rw [hW2] at W2E
            have HKW2 := Lib.hid KW2
            have hla2 := HQ3.out a (by omega)
            rw [hla] at hla2
            rw [← W2E] at full f5 f6
            have hws : IntKind.i64.wrap (W2 + la) = W2 + la := IntWalk.i64_in _ (by omega)
            have dws : decide (W2 + la ≤ M) = false := decide_eq_false (by omega)
            have di : decide (0 < (i : Int)) = true := decide_eq_true (by omega)
            have di2 : (0 : Int) < (i : Int) := by omega
            have diN : decide (0 < i) = true := decide_eq_true (by omega)
            have j1 : IntKind.i64.wrap ((i : Int) - 1) = (i : Int) - 1 := IntWalk.i64_in _ (by omega)
            have j2 : (0 : Int) ≤ (i : Int) - 1 := by omega
            have j3 : (i : Int) - 1 < (cn : Int) := by omega
            have j4 : ((i : Int) - 1).toNat = t2 := by omega
            have j5 : (1 : Int) ≤ (i : Int) := by omega
            have j6 : 1 ≤ i := by omega
            have an : (a : Int) < (n : Int) := by omega
            have qa : ((a : Int) != (a : Int)) = false := by simp
            have T2 := Lib.hid ht2
            have HI0 := Lib.hid hi0
            clear hi0
            clear hcl hcc hla f1 f2 f7 CH ab FE2 KW2 hW2 W2E full ht2 f3 f4 f5 f6 hla2
            go_wp2_with fail
            have sK : ∀ X, At X gb (go + i * 2) #[.int .i64 a, .int .i64 b] → At X gb (go + t2 * 2) #[.int .i64 a', .int .i64 a] → At X lb (lo + a) #[.int .i64 la] → (fun X => X.cell? ⟨gb, go + i * 2, none⟩ = some (.int .i64 a) ∧ X.cell? ⟨gb, go + i * 2 + 1, none⟩ = some (.int .i64 b) ∧ X.cell? ⟨gb, go + t2 * 2, none⟩ = some (.int .i64 a') ∧ X.cell? ⟨gb, go + t2 * 2 + 1, none⟩ = some (.int .i64 a) ∧ X.cell? ⟨lb, lo + a, none⟩ = some (.int .i64 la)) X := fun X hI hJ hL => ⟨hI 0 _ rfl, hI 1 _ rfl, hJ 0 _ rfl, hJ 1 _ rfl, hL 0 _ rfl⟩
            have LI0 := Lib.hid (HI.out.drew)
            have LJ0 := Lib.hid (HJ.out.drew)
            have LL0 := Lib.hid (HL.out.drew)
            have E0 := Lib.hid (EE.out.drew)
            clear k0 k1
            refine wp_region_held_drew (S := (fun X => X.cell? ⟨gb, go + i * 2, none⟩ = some (.int .i64 a) ∧ X.cell? ⟨gb, go + i * 2 + 1, none⟩ = some (.int .i64 b) ∧ X.cell? ⟨gb, go + t2 * 2, none⟩ = some (.int .i64 a') ∧ X.cell? ⟨gb, go + t2 * 2 + 1, none⟩ = some (.int .i64 a) ∧ X.cell? ⟨lb, lo + a, none⟩ = some (.int .i64 la))) (by kernel_rfl) (sK _ LI0.out LJ0.out LL0.out) (fun hHeld => ?_)
            clear hHeld
            refine wpAnyH_take (i := 0) (v := ?_) rfl (by kernel_rfl) (by kernel_rfl) (by kernel_rfl) (fun _ _ _ h => h) (Or.inl ⟨by rfl, ?_⟩) (sK _ LI0.out LJ0.out LL0.out) ?_
            rotate_left
            · (intro wS hSw; (try dsimp only at hSw); go_simp; try with_reducible rfl)
            simp only [Act.put, List.getElem_toArray, List.getElem_cons_zero, List.getElem_cons_succ, List.setIfInBounds_toArray, List.set_cons_zero, List.set_cons_succ]
            refine wpAnyH_take (i := 1) (v := ?_) rfl (by kernel_rfl) (by kernel_rfl) (by kernel_rfl) (fun _ _ _ h => h) (Or.inl ⟨by rfl, ?_⟩) (sK _ LI0.out LJ0.out LL0.out) ?_
            rotate_left
            · (intro wS hSw; (try dsimp only at hSw); go_simp; try with_reducible rfl)
            simp only [Act.put, List.getElem_toArray, List.getElem_cons_zero, List.getElem_cons_succ, List.setIfInBounds_toArray, List.set_cons_zero, List.set_cons_succ]
            refine wpAnyH_take (i := 2) (v := ?_) rfl (by kernel_rfl) (by kernel_rfl) (by kernel_rfl) (fun _ _ _ h => h) (Or.inl ⟨by rfl, ?_⟩) (sK _ LI0.out LJ0.out LL0.out) ?_
            rotate_left
            · (intro wS hSw; (try dsimp only at hSw); go_simp; try with_reducible rfl)
            simp only [Act.put, List.getElem_toArray, List.getElem_cons_zero, List.getElem_cons_succ, List.setIfInBounds_toArray, List.set_cons_zero, List.set_cons_succ]
            refine wpAnyH_take (i := 3) (v := ?_) rfl (by kernel_rfl) (by kernel_rfl) (by kernel_rfl) (fun _ _ _ h => h) (Or.inl ⟨by rfl, ?_⟩) (sK _ LI0.out LJ0.out LL0.out) ?_
            rotate_left
            · (intro wS hSw; (try dsimp only at hSw); go_simp; try with_reducible rfl)
            simp only [Act.put, List.getElem_toArray, List.getElem_cons_zero, List.getElem_cons_succ, List.setIfInBounds_toArray, List.set_cons_zero, List.set_cons_succ]
            refine wpAnyH_take (i := 4) (v := ?_) rfl (by kernel_rfl) (by kernel_rfl) (by kernel_rfl) (fun _ _ _ h => h) (Or.inl ⟨by rfl, ?_⟩) (sK _ LI0.out LJ0.out LL0.out) ?_
            rotate_left
            · (intro wS hSw; (try dsimp only at hSw); go_simp; try with_reducible rfl)
            simp only [Act.put, List.getElem_toArray, List.getElem_cons_zero, List.getElem_cons_succ, List.setIfInBounds_toArray, List.set_cons_zero, List.set_cons_succ]
            refine wpAnyH_take (i := 5) (v := ?_) rfl (by kernel_rfl) (by kernel_rfl) (by kernel_rfl) (fun _ _ _ h => h) (Or.inl ⟨by rfl, ?_⟩) (sK _ LI0.out LJ0.out LL0.out) ?_
            rotate_left
            · (intro wS hSw; (try dsimp only at hSw); go_simp; try with_reducible rfl)
            simp only [Act.put, List.getElem_toArray, List.getElem_cons_zero, List.getElem_cons_succ, List.setIfInBounds_toArray, List.set_cons_zero, List.set_cons_succ]
            refine wpAnyH_take (i := 6) (v := ?_) rfl (by kernel_rfl) (by kernel_rfl) (by kernel_rfl) (fun _ _ _ h => h) (Or.inl ⟨by rfl, ?_⟩) (sK _ LI0.out LJ0.out LL0.out) ?_
            rotate_left
            · (intro wS hSw; (try dsimp only at hSw); go_simp; try with_reducible rfl)
            simp only [Act.put, List.getElem_toArray, List.getElem_cons_zero, List.getElem_cons_succ, List.setIfInBounds_toArray, List.set_cons_zero, List.set_cons_succ]
            refine wpAnyH_take (i := 7) (v := ?_) rfl (by kernel_rfl) (by kernel_rfl) (by kernel_rfl) (fun _ _ _ h => h) (Or.inl ⟨by rfl, ?_⟩) (sK _ LI0.out LJ0.out LL0.out) ?_
            rotate_left
            · (intro wS hSw; (try dsimp only at hSw); go_simp; try with_reducible rfl)
            simp only [Act.put, List.getElem_toArray, List.getElem_cons_zero, List.getElem_cons_succ, List.setIfInBounds_toArray, List.set_cons_zero, List.set_cons_succ]
            refine wpAnyH_take (i := 8) (v := ?_) rfl (by kernel_rfl) (by kernel_rfl) (by kernel_rfl) (fun _ _ _ h => h) (Or.inl ⟨by rfl, ?_⟩) (sK _ LI0.out LJ0.out LL0.out) ?_
            rotate_left
            · (intro wS hSw; (try dsimp only at hSw); go_simp; try with_reducible rfl)
            simp only [Act.put, List.getElem_toArray, List.getElem_cons_zero, List.getElem_cons_succ, List.setIfInBounds_toArray, List.set_cons_zero, List.set_cons_succ]
            refine wpAnyH_take (i := 9) (v := ?_) rfl (by kernel_rfl) (by kernel_rfl) (by kernel_rfl) (fun _ _ _ h => h) (Or.inl ⟨by rfl, ?_⟩) (sK _ LI0.out LJ0.out LL0.out) ?_
            rotate_left
            · (intro wS hSw; (try dsimp only at hSw); go_simp; try with_reducible rfl)
            simp only [Act.put, List.getElem_toArray, List.getElem_cons_zero, List.getElem_cons_succ, List.setIfInBounds_toArray, List.set_cons_zero, List.set_cons_succ]
            refine wpAnyH_take (i := 10) (v := ?_) rfl (by kernel_rfl) (by kernel_rfl) (by kernel_rfl) (fun _ _ _ h => h) (Or.inl ⟨by rfl, ?_⟩) (sK _ LI0.out LJ0.out LL0.out) ?_
            rotate_left
            · (intro wS hSw; (try dsimp only at hSw); go_simp; try with_reducible rfl)
            simp only [Act.put, List.getElem_toArray, List.getElem_cons_zero, List.getElem_cons_succ, List.setIfInBounds_toArray, List.set_cons_zero, List.set_cons_succ]
            refine wpAnyH_take (i := 11) (v := ?_) rfl (by kernel_rfl) (by kernel_rfl) (by kernel_rfl) (fun _ _ _ h => h) (Or.inl ⟨by rfl, ?_⟩) (sK _ LI0.out LJ0.out LL0.out) ?_
            rotate_left
            · (intro wS hSw; (try dsimp only at hSw); go_simp; try with_reducible rfl)
            simp only [Act.put, List.getElem_toArray, List.getElem_cons_zero, List.getElem_cons_succ, List.setIfInBounds_toArray, List.set_cons_zero, List.set_cons_succ]
            refine wpAnyH_take (i := 12) (v := ?_) rfl (by kernel_rfl) (by kernel_rfl) (by kernel_rfl) (fun _ _ _ h => h) (Or.inl ⟨by rfl, ?_⟩) (sK _ LI0.out LJ0.out LL0.out) ?_
            rotate_left
            · (intro wS hSw; (try dsimp only at hSw); go_simp; try with_reducible rfl)
            simp only [Act.put, List.getElem_toArray, List.getElem_cons_zero, List.getElem_cons_succ, List.setIfInBounds_toArray, List.set_cons_zero, List.set_cons_succ]
            refine wpAnyH_take (i := 13) (v := ?_) rfl (by kernel_rfl) (by kernel_rfl) (by kernel_rfl) (fun _ _ _ h => h) (Or.inl ⟨by rfl, ?_⟩) (sK _ LI0.out LJ0.out LL0.out) ?_
            rotate_left
            · (intro wS hSw; (try dsimp only at hSw); go_simp; try with_reducible rfl)
            simp only [Act.put, List.getElem_toArray, List.getElem_cons_zero, List.getElem_cons_succ, List.setIfInBounds_toArray, List.set_cons_zero, List.set_cons_succ]
            refine wpAnyH_take (i := 14) (v := ?_) rfl (by kernel_rfl) (by kernel_rfl) (by kernel_rfl) (fun _ _ _ h => h) (Or.inl ⟨by rfl, ?_⟩) (sK _ LI0.out LJ0.out LL0.out) ?_
            rotate_left
            · (intro wS hSw; (try dsimp only at hSw); go_simp; try with_reducible rfl)
            simp only [Act.put, List.getElem_toArray, List.getElem_cons_zero, List.getElem_cons_succ, List.setIfInBounds_toArray, List.set_cons_zero, List.set_cons_succ]
            refine wpAnyH_take (i := 15) (v := ?_) rfl (by kernel_rfl) (by kernel_rfl) (by kernel_rfl) (fun _ _ _ h => h) (Or.inl ⟨by rfl, ?_⟩) (sK _ LI0.out LJ0.out LL0.out) ?_
            rotate_left
            · (intro wS hSw; (try dsimp only at hSw); go_simp; try with_reducible rfl)
            simp only [Act.put, List.getElem_toArray, List.getElem_cons_zero, List.getElem_cons_succ, List.setIfInBounds_toArray, List.set_cons_zero, List.set_cons_succ]
            refine wpAnyH_take (i := 16) (v := ?_) rfl (by kernel_rfl) (by kernel_rfl) (by kernel_rfl) (fun _ _ _ h => h) (Or.inl ⟨by rfl, ?_⟩) (sK _ LI0.out LJ0.out LL0.out) ?_
            rotate_left
            · (intro wS hSw; (try dsimp only at hSw); go_simp; try with_reducible rfl)
            simp only [Act.put, List.getElem_toArray, List.getElem_cons_zero, List.getElem_cons_succ, List.setIfInBounds_toArray, List.set_cons_zero, List.set_cons_succ]
            refine wpAnyH_take (i := 17) (v := ?_) rfl (by kernel_rfl) (by kernel_rfl) (by kernel_rfl) (fun _ _ _ h => h) (Or.inl ⟨by rfl, ?_⟩) (sK _ LI0.out LJ0.out LL0.out) ?_
            rotate_left
            · (intro wS hSw; (try dsimp only at hSw); go_simp; try with_reducible rfl)
            simp only [Act.put, List.getElem_toArray, List.getElem_cons_zero, List.getElem_cons_succ, List.setIfInBounds_toArray, List.set_cons_zero, List.set_cons_succ]
            refine wpAnyH_take (i := 18) (v := ?_) rfl (by kernel_rfl) (by kernel_rfl) (by kernel_rfl) (fun _ _ _ h => h) (Or.inl ⟨by rfl, ?_⟩) (sK _ LI0.out LJ0.out LL0.out) ?_
            rotate_left
            · (intro wS hSw; (try dsimp only at hSw); go_simp; try with_reducible rfl)
            simp only [Act.put, List.getElem_toArray, List.getElem_cons_zero, List.getElem_cons_succ, List.setIfInBounds_toArray, List.set_cons_zero, List.set_cons_succ]
            refine wpAnyH_take (i := 19) (v := ?_) rfl (by kernel_rfl) (by kernel_rfl) (by kernel_rfl) (fun _ _ _ h => h) (Or.inl ⟨by rfl, ?_⟩) (sK _ LI0.out LJ0.out LL0.out) ?_
            rotate_left
            · (intro wS hSw; (try dsimp only at hSw); go_simp; try with_reducible rfl)
            simp only [Act.put, List.getElem_toArray, List.getElem_cons_zero, List.getElem_cons_succ, List.setIfInBounds_toArray, List.set_cons_zero, List.set_cons_succ]
            refine wpAnyH_take (i := 20) (v := ?_) rfl (by kernel_rfl) (by kernel_rfl) (by kernel_rfl) (fun _ _ _ h => h) (Or.inl ⟨by rfl, ?_⟩) (sK _ LI0.out LJ0.out LL0.out) ?_
            rotate_left
            · (intro wS hSw; (try dsimp only at hSw); go_simp; try with_reducible rfl)
            simp only [Act.put, List.getElem_toArray, List.getElem_cons_zero, List.getElem_cons_succ, List.setIfInBounds_toArray, List.set_cons_zero, List.set_cons_succ]
            refine wpAnyH_take (i := 21) (v := ?_) rfl (by kernel_rfl) (by kernel_rfl) (by kernel_rfl) (fun _ _ _ h => h) (Or.inl ⟨by rfl, ?_⟩) (sK _ LI0.out LJ0.out LL0.out) ?_
            rotate_left
            · (intro wS hSw; (try dsimp only at hSw); go_simp; try with_reducible rfl)
            simp only [Act.put, List.getElem_toArray, List.getElem_cons_zero, List.getElem_cons_succ, List.setIfInBounds_toArray, List.set_cons_zero, List.set_cons_succ]
            refine wpAnyH_take (i := 22) (v := ?_) rfl (by kernel_rfl) (by kernel_rfl) (by kernel_rfl) (fun _ _ _ h => h) (Or.inl ⟨by rfl, ?_⟩) (sK _ LI0.out LJ0.out LL0.out) ?_
            rotate_left
            · (intro wS hSw; (try dsimp only at hSw); go_simp; try with_reducible rfl)
            simp only [Act.put, List.getElem_toArray, List.getElem_cons_zero, List.getElem_cons_succ, List.setIfInBounds_toArray, List.set_cons_zero, List.set_cons_succ]
            refine wpAnyH_take (i := 23) (v := ?_) rfl (by kernel_rfl) (by kernel_rfl) (by kernel_rfl) (fun _ _ _ h => h) (Or.inl ⟨by rfl, ?_⟩) (sK _ LI0.out LJ0.out LL0.out) ?_
            rotate_left
            · (intro wS hSw; (try dsimp only at hSw); go_simp; try with_reducible rfl)
            simp only [Act.put, List.getElem_toArray, List.getElem_cons_zero, List.getElem_cons_succ, List.setIfInBounds_toArray, List.set_cons_zero, List.set_cons_succ]
            refine wpAnyH_take (i := 24) (v := ?_) rfl (by kernel_rfl) (by kernel_rfl) (by kernel_rfl) (fun _ _ _ h => h) (Or.inl ⟨by rfl, ?_⟩) (sK _ LI0.out LJ0.out LL0.out) ?_
            rotate_left
            · (intro wS hSw; (try dsimp only at hSw); go_simp; try with_reducible rfl)
            simp only [Act.put, List.getElem_toArray, List.getElem_cons_zero, List.getElem_cons_succ, List.setIfInBounds_toArray, List.set_cons_zero, List.set_cons_succ]
            refine wpAnyH_take (i := 25) (v := ?_) rfl (by kernel_rfl) (by kernel_rfl) (by kernel_rfl) (fun _ _ _ h => h) (Or.inl ⟨by rfl, ?_⟩) (sK _ LI0.out LJ0.out LL0.out) ?_
            rotate_left
            · (intro wS hSw; (try dsimp only at hSw); go_simp; try with_reducible rfl)
            simp only [Act.put, List.getElem_toArray, List.getElem_cons_zero, List.getElem_cons_succ, List.setIfInBounds_toArray, List.set_cons_zero, List.set_cons_succ]
            refine wpAnyH_take (i := 26) (v := ?_) rfl (by kernel_rfl) (by kernel_rfl) (by kernel_rfl) (fun _ _ _ h => h) (Or.inl ⟨by rfl, ?_⟩) (sK _ LI0.out LJ0.out LL0.out) ?_
            rotate_left
            · (intro wS hSw; (try dsimp only at hSw); go_simp; try with_reducible rfl)
            simp only [Act.put, List.getElem_toArray, List.getElem_cons_zero, List.getElem_cons_succ, List.setIfInBounds_toArray, List.set_cons_zero, List.set_cons_succ]
            refine wpAnyH_take (i := 27) (v := ?_) rfl (by kernel_rfl) (by kernel_rfl) (by kernel_rfl) (fun _ _ _ h => h) (Or.inl ⟨by rfl, ?_⟩) (sK _ LI0.out LJ0.out LL0.out) ?_
            rotate_left
            · (intro wS hSw; (try dsimp only at hSw); go_simp; try with_reducible rfl)
            simp only [Act.put, List.getElem_toArray, List.getElem_cons_zero, List.getElem_cons_succ, List.setIfInBounds_toArray, List.set_cons_zero, List.set_cons_succ]
            refine wpAnyH_take (i := 28) (v := ?_) rfl (by kernel_rfl) (by kernel_rfl) (by kernel_rfl) (fun _ _ _ h => h) (Or.inl ⟨by rfl, ?_⟩) (sK _ LI0.out LJ0.out LL0.out) ?_
            rotate_left
            · (intro wS hSw; (try dsimp only at hSw); go_simp; try with_reducible rfl)
            simp only [Act.put, List.getElem_toArray, List.getElem_cons_zero, List.getElem_cons_succ, List.setIfInBounds_toArray, List.set_cons_zero, List.set_cons_succ]
            refine wpAnyH_take (i := 29) (v := ?_) rfl (by kernel_rfl) (by kernel_rfl) (by kernel_rfl) (fun _ _ _ h => h) (Or.inl ⟨by rfl, ?_⟩) (sK _ LI0.out LJ0.out LL0.out) ?_
            rotate_left
            · (intro wS hSw; (try dsimp only at hSw); go_simp; try with_reducible rfl)
            simp only [Act.put, List.getElem_toArray, List.getElem_cons_zero, List.getElem_cons_succ, List.setIfInBounds_toArray, List.set_cons_zero, List.set_cons_succ]
            refine wpAnyH_take (i := 30) (v := ?_) rfl (by kernel_rfl) (by kernel_rfl) (by kernel_rfl) (fun _ _ _ h => h) (Or.inl ⟨by rfl, ?_⟩) (sK _ LI0.out LJ0.out LL0.out) ?_
            rotate_left
            · (intro wS hSw; (try dsimp only at hSw); go_simp; try with_reducible rfl)
            simp only [Act.put, List.getElem_toArray, List.getElem_cons_zero, List.getElem_cons_succ, List.setIfInBounds_toArray, List.set_cons_zero, List.set_cons_succ]
            refine wpAnyH_take (i := 31) (v := ?_) rfl (by kernel_rfl) (by kernel_rfl) (by kernel_rfl) (fun _ _ _ h => h) (Or.inl ⟨by rfl, ?_⟩) (sK _ LI0.out LJ0.out LL0.out) ?_
            rotate_left
            · (intro wS hSw; (try dsimp only at hSw); go_simp; try with_reducible rfl)
            simp only [Act.put, List.getElem_toArray, List.getElem_cons_zero, List.getElem_cons_succ, List.setIfInBounds_toArray, List.set_cons_zero, List.set_cons_succ]
            refine wpAnyH_take (i := 32) (v := ?_) rfl (by kernel_rfl) (by kernel_rfl) (by kernel_rfl) (fun _ _ _ h => h) (Or.inl ⟨by rfl, ?_⟩) (sK _ LI0.out LJ0.out LL0.out) ?_
            rotate_left
            · (intro wS hSw; (try dsimp only at hSw); go_simp; try with_reducible rfl)
            simp only [Act.put, List.getElem_toArray, List.getElem_cons_zero, List.getElem_cons_succ, List.setIfInBounds_toArray, List.set_cons_zero, List.set_cons_succ]
            refine wpAnyH_take (i := 33) (v := ?_) rfl (by kernel_rfl) (by kernel_rfl) (by kernel_rfl) (fun _ _ _ h => h) (Or.inl ⟨by rfl, ?_⟩) (sK _ LI0.out LJ0.out LL0.out) ?_
            rotate_left
            · (intro wS hSw; (try dsimp only at hSw); go_simp; try with_reducible rfl)
            simp only [Act.put, List.getElem_toArray, List.getElem_cons_zero, List.getElem_cons_succ, List.setIfInBounds_toArray, List.set_cons_zero, List.set_cons_succ]
            refine wpAnyH_take (i := 35) (v := ?_) rfl (by kernel_rfl) (by kernel_rfl) (by kernel_rfl) (fun _ _ _ h => h) (Or.inl ⟨by rfl, ?_⟩) (sK _ LI0.out LJ0.out LL0.out) ?_
            rotate_left
            · (intro wS hSw; (try dsimp only at hSw); go_simp; try with_reducible rfl)
            simp only [Act.put, List.getElem_toArray, List.getElem_cons_zero, List.getElem_cons_succ, List.setIfInBounds_toArray, List.set_cons_zero, List.set_cons_succ]
            refine wpAnyH_take (i := 36) (v := ?_) rfl (by kernel_rfl) (by kernel_rfl) (by kernel_rfl) (fun _ _ _ h => h) (Or.inl ⟨by rfl, ?_⟩) (sK _ LI0.out LJ0.out LL0.out) ?_
            rotate_left
            · (intro wS hSw; (try dsimp only at hSw); go_simp; try with_reducible rfl)
            simp only [Act.put, List.getElem_toArray, List.getElem_cons_zero, List.getElem_cons_succ, List.setIfInBounds_toArray, List.set_cons_zero, List.set_cons_succ]
            refine wpAnyH_take (i := 37) (v := ?_) rfl (by kernel_rfl) (by kernel_rfl) (by kernel_rfl) (fun _ _ _ h => h) (Or.inl ⟨by rfl, ?_⟩) (sK _ LI0.out LJ0.out LL0.out) ?_
            rotate_left
            · (intro wS hSw; (try dsimp only at hSw); go_simp; try with_reducible rfl)
            simp only [Act.put, List.getElem_toArray, List.getElem_cons_zero, List.getElem_cons_succ, List.setIfInBounds_toArray, List.set_cons_zero, List.set_cons_succ]
            refine wpAnyH_take (i := 38) (v := ?_) rfl (by kernel_rfl) (by kernel_rfl) (by kernel_rfl) (fun _ _ _ h => h) (Or.inl ⟨by rfl, ?_⟩) (sK _ LI0.out LJ0.out LL0.out) ?_
            rotate_left
            · (intro wS hSw; (try dsimp only at hSw); go_simp; try with_reducible rfl)
            simp only [Act.put, List.getElem_toArray, List.getElem_cons_zero, List.getElem_cons_succ, List.setIfInBounds_toArray, List.set_cons_zero, List.set_cons_succ]
            refine wpAnyH_take (i := 39) (v := ?_) rfl (by kernel_rfl) (by kernel_rfl) (by kernel_rfl) (fun _ _ _ h => h) (Or.inl ⟨by rfl, ?_⟩) (sK _ LI0.out LJ0.out LL0.out) ?_
            rotate_left
            · (intro wS hSw; (try dsimp only at hSw); go_simp; try with_reducible rfl)
            simp only [Act.put, List.getElem_toArray, List.getElem_cons_zero, List.getElem_cons_succ, List.setIfInBounds_toArray, List.set_cons_zero, List.set_cons_succ]
            refine wpAnyH_take (i := 40) (v := ?_) rfl (by kernel_rfl) (by kernel_rfl) (by kernel_rfl) (fun _ _ _ h => h) (Or.inl ⟨by rfl, ?_⟩) (sK _ LI0.out LJ0.out LL0.out) ?_
            rotate_left
            · (intro wS hSw; (try dsimp only at hSw); go_simp; try with_reducible rfl)
            simp only [Act.put, List.getElem_toArray, List.getElem_cons_zero, List.getElem_cons_succ, List.setIfInBounds_toArray, List.set_cons_zero, List.set_cons_succ]
            refine wpAnyH_take (i := 41) (v := ?_) rfl (by kernel_rfl) (by kernel_rfl) (by kernel_rfl) (fun _ _ _ h => h) (Or.inl ⟨by rfl, ?_⟩) (sK _ LI0.out LJ0.out LL0.out) ?_
            rotate_left
            · (intro wS hSw; (try dsimp only at hSw); go_simp; try with_reducible rfl)
            simp only [Act.put, List.getElem_toArray, List.getElem_cons_zero, List.getElem_cons_succ, List.setIfInBounds_toArray, List.set_cons_zero, List.set_cons_succ]
            refine wpAnyH_take (i := 42) (v := ?_) rfl (by kernel_rfl) (by kernel_rfl) (by kernel_rfl) (fun _ _ _ h => h) (Or.inl ⟨by rfl, ?_⟩) (sK _ LI0.out LJ0.out LL0.out) ?_
            rotate_left
            · (intro wS hSw; (try dsimp only at hSw); go_simp; try with_reducible rfl)
            simp only [Act.put, List.getElem_toArray, List.getElem_cons_zero, List.getElem_cons_succ, List.setIfInBounds_toArray, List.set_cons_zero, List.set_cons_succ]
            refine wpAnyH_take (i := 44) (v := ?_) rfl (by kernel_rfl) (by kernel_rfl) (by kernel_rfl) (fun _ _ _ h => h) (Or.inl ⟨by rfl, ?_⟩) (sK _ LI0.out LJ0.out LL0.out) ?_
            rotate_left
            · (intro wS hSw; (try dsimp only at hSw); go_simp; try with_reducible rfl)
            simp only [Act.put, List.getElem_toArray, List.getElem_cons_zero, List.getElem_cons_succ, List.setIfInBounds_toArray, List.set_cons_zero, List.set_cons_succ]
            refine wpAnyH_ready (rs := [34]) (by kernel_rfl) (by simp) ?_
            refine AllReadyH.cons rfl (fun K hK => ?_) AllReadyH.nil
            go_simp
            refine (HKW2.out _ (HRL.out.kept E0.out)).mono ?_
            rintro e r1 ⟨rfl, hb⟩
            have LI1 := Lib.hid (At.next (w := v1.drew) LI0.out hb)
            have LJ1 := Lib.hid (At.next (w := v1.drew) LJ0.out hb)
            have LL1 := Lib.hid (At.next (w := v1.drew) LL0.out hb)
            have E1 := Lib.hid (E0.out.trans (hb.mono E0.out.size))
            clear hb
            go_wp2_with fail
            refine hK.out _ _ (sK _ LI1.out LJ1.out LL1.out) (fun hHeld => ?_)
            clear hK K hHeld
            try simp only [Act.put, List.getElem_toArray, List.getElem_cons_zero, List.getElem_cons_succ, List.setIfInBounds_toArray, List.set_cons_zero, List.set_cons_succ]
            refine wpAnyH_take (i := 43) (v := ?_) rfl (by kernel_rfl) (by kernel_rfl) (by kernel_rfl) (fun _ _ _ h => h) (Or.inl ⟨by rfl, ?_⟩) (sK _ LI1.out LJ1.out LL1.out) ?_
            rotate_left
            · (intro wS hSw; (try dsimp only at hSw); go_simp; try with_reducible rfl)
            simp only [Act.put, List.getElem_toArray, List.getElem_cons_zero, List.getElem_cons_succ, List.setIfInBounds_toArray, List.set_cons_zero, List.set_cons_succ]
            refine wpAnyH_take (i := 45) (v := ?_) rfl (by kernel_rfl) (by kernel_rfl) (by kernel_rfl) (fun _ _ _ h => h) (Or.inl ⟨by rfl, ?_⟩) (sK _ LI1.out LJ1.out LL1.out) ?_
            rotate_left
            · (intro wS hSw; (try dsimp only at hSw); go_simp; try with_reducible rfl)
            simp only [Act.put, List.getElem_toArray, List.getElem_cons_zero, List.getElem_cons_succ, List.setIfInBounds_toArray, List.set_cons_zero, List.set_cons_succ]
            refine wpAnyH_take (i := 46) (v := ?_) rfl (by kernel_rfl) (by kernel_rfl) (by kernel_rfl) (fun _ _ _ h => h) (Or.inl ⟨by rfl, ?_⟩) (sK _ LI1.out LJ1.out LL1.out) ?_
            rotate_left
            · (intro wS hSw; (try dsimp only at hSw); go_simp; try with_reducible rfl)
            simp only [Act.put, List.getElem_toArray, List.getElem_cons_zero, List.getElem_cons_succ, List.setIfInBounds_toArray, List.set_cons_zero, List.set_cons_succ]
            refine wpAnyH_take (i := 47) (v := ?_) rfl (by kernel_rfl) (by kernel_rfl) (by kernel_rfl) (fun _ _ _ h => h) (Or.inl ⟨by rfl, ?_⟩) (sK _ LI1.out LJ1.out LL1.out) ?_
            rotate_left
            · (intro wS hSw; (try dsimp only at hSw); go_simp; try with_reducible rfl)
            simp only [Act.put, List.getElem_toArray, List.getElem_cons_zero, List.getElem_cons_succ, List.setIfInBounds_toArray, List.set_cons_zero, List.set_cons_succ]
            refine wpAnyH_take (i := 48) (v := ?_) rfl (by kernel_rfl) (by kernel_rfl) (by kernel_rfl) (fun _ _ _ h => h) (Or.inl ⟨by rfl, ?_⟩) (sK _ LI1.out LJ1.out LL1.out) ?_
            rotate_left
            · (intro wS hSw; (try dsimp only at hSw); go_simp; try with_reducible rfl)
            simp only [Act.put, List.getElem_toArray, List.getElem_cons_zero, List.getElem_cons_succ, List.setIfInBounds_toArray, List.set_cons_zero, List.set_cons_succ]
            refine wpAnyH_done (by kernel_rfl) ?_ _
            have HI := LI1
            have HJ := LJ1
            have HL := LL1
            have EE := E1
            have kI0 : r1.cell? ⟨gb, go + i * 2, none⟩ = some (.int .i64 a) := HI.out 0 _ rfl
            have kI1 : r1.cell? ⟨gb, go + i * 2 + 1, none⟩ = some (.int .i64 b) := HI.out 1 _ rfl
            have kJ0 : r1.cell? ⟨gb, go + t2 * 2, none⟩ = some (.int .i64 a') := HJ.out 0 _ rfl
            have kJ1 : r1.cell? ⟨gb, go + t2 * 2 + 1, none⟩ = some (.int .i64 a) := HJ.out 1 _ rfl
            have kL0 : r1.cell? ⟨lb, lo + a, none⟩ = some (.int .i64 la) := HL.out 0 _ rfl
            go_wp2_with fail
            go_loopg [12] (b - a) (fun g f12 wr => ∃ q : Nat, a ≤ q ∧ q ≤ b ∧ g = b - q ∧ f12 = .int .i64 q ∧ Below w2.heap.size w2 wr)
            case atStart => exact ⟨a, Nat.le_refl _, by omega, rfl, rfl, EE.out⟩
            case round =>
              obtain ⟨q, hq1, hq2, rfl, rfl, hb⟩ := hrel
              rename World => w5
              have EQ := Lib.hid hb
              clear hb
              obtain ⟨gb2, go2, eg, hlt2, hcl⟩ := rdZ_row (HZR.out.kept EQ.out) (by omega) (by omega)
              cases eg
              have m0 : w5.cell? ⟨gb, go + i * 2, none⟩ = some (.int .i64 a) := (hcl i 0 h (by omega)).trans (by rw [He1.out])
              have m1 : w5.cell? ⟨gb, go + i * 2 + 1, none⟩ = some (.int .i64 b) := (hcl i 1 h (by omega)).trans (by rw [He2.out])
              clear hcl
              by_cases hqb : q < b
              · have KO := fun w hz => zof_any (some ⟨gb, go, none⟩) c' cn z (q : Int) w (by omega) hz
                simp only [HOF.out q hq1 hqb] at KO
                have HKO := Lib.hid KO
                clear KO
                have qI : (q : Int) < (b : Int) := by omega
                have qn : ((i : Int) != (i : Int)) = false := by simp
                go_wp2_with fail
                refine (HKO.out _ (HZR.out.kept EQ.out)).mono ?_
                rintro e w6 ⟨rfl, hb⟩
                have E6 := Lib.hid (EQ.out.trans (hb.mono EQ.out.size))
                clear hb
                go_wp2_with fail
                go_roundg (b - (q + 1))
                case measure => omega
                case rel => exact ⟨q + 1, by omega, by omega, rfl, by go_num, E6.out⟩
              · obtain rfl : q = b := by omega
                have qI : ¬ ((q : Int) < (q : Int)) := by omega
                go_wp2_with fail
                go_roundg (cn - (i + 1))
                case measure => omega
                case rel => exact ⟨i + 1, by omega, rfl, by go_num, by rw [HMS.out, HMX2.out], EQ.out⟩
        · have hmax : max mx W = mx := by omega
          have HMX2 := Lib.hid hmax
          have hwm : W < mx := by omega
          have EE := EV
          clear hb
          by_cases hi0 : i = 0
          · have di : decide (0 < (i : Int)) = false := decide_eq_false (by omega)
            have di2 : (i : Int) ≤ 0 := by omega
            have diN : decide (0 < i) = false := decide_eq_false (by omega)
            have HI0 := Lib.hid hi0
            clear hi0
            go_wp2_with fail
            have sK : ∀ X, At X gb (go + i * 2) #[.int .i64 a, .int .i64 b] → (fun X => X.cell? ⟨gb, go + i * 2, none⟩ = some (.int .i64 a) ∧ X.cell? ⟨gb, go + i * 2 + 1, none⟩ = some (.int .i64 b)) X := fun X hI => ⟨hI 0 _ rfl, hI 1 _ rfl⟩
            have LI0 := Lib.hid (HI.out.drew)
            have E0 := Lib.hid (EE.out.drew)
            clear k0 k1
            refine wp_region_held_drew (S := (fun X => X.cell? ⟨gb, go + i * 2, none⟩ = some (.int .i64 a) ∧ X.cell? ⟨gb, go + i * 2 + 1, none⟩ = some (.int .i64 b))) (by kernel_rfl) (sK _ LI0.out) (fun hHeld => ?_)
            clear hHeld
            refine wpAnyH_take (i := 0) (v := ?_) rfl (by kernel_rfl) (by kernel_rfl) (by kernel_rfl) (fun _ _ _ h => h) (Or.inl ⟨by rfl, ?_⟩) (sK _ LI0.out) ?_
            rotate_left
            · (intro wS hSw; (try dsimp only at hSw); go_simp; try with_reducible rfl)
            simp only [Act.put, List.getElem_toArray, List.getElem_cons_zero, List.getElem_cons_succ, List.setIfInBounds_toArray, List.set_cons_zero, List.set_cons_succ]
            refine wpAnyH_take (i := 1) (v := ?_) rfl (by kernel_rfl) (by kernel_rfl) (by kernel_rfl) (fun _ _ _ h => h) (Or.inl ⟨by rfl, ?_⟩) (sK _ LI0.out) ?_
            rotate_left
            · (intro wS hSw; (try dsimp only at hSw); go_simp; try with_reducible rfl)
            simp only [Act.put, List.getElem_toArray, List.getElem_cons_zero, List.getElem_cons_succ, List.setIfInBounds_toArray, List.set_cons_zero, List.set_cons_succ]
            refine wpAnyH_take (i := 2) (v := ?_) rfl (by kernel_rfl) (by kernel_rfl) (by kernel_rfl) (fun _ _ _ h => h) (Or.inl ⟨by rfl, ?_⟩) (sK _ LI0.out) ?_
            rotate_left
            · (intro wS hSw; (try dsimp only at hSw); go_simp; try with_reducible rfl)
            simp only [Act.put, List.getElem_toArray, List.getElem_cons_zero, List.getElem_cons_succ, List.setIfInBounds_toArray, List.set_cons_zero, List.set_cons_succ]
            refine wpAnyH_take (i := 3) (v := ?_) rfl (by kernel_rfl) (by kernel_rfl) (by kernel_rfl) (fun _ _ _ h => h) (Or.inl ⟨by rfl, ?_⟩) (sK _ LI0.out) ?_
            rotate_left
            · (intro wS hSw; (try dsimp only at hSw); go_simp; try with_reducible rfl)
            simp only [Act.put, List.getElem_toArray, List.getElem_cons_zero, List.getElem_cons_succ, List.setIfInBounds_toArray, List.set_cons_zero, List.set_cons_succ]
            refine wpAnyH_take (i := 4) (v := ?_) rfl (by kernel_rfl) (by kernel_rfl) (by kernel_rfl) (fun _ _ _ h => h) (Or.inl ⟨by rfl, ?_⟩) (sK _ LI0.out) ?_
            rotate_left
            · (intro wS hSw; (try dsimp only at hSw); go_simp; try with_reducible rfl)
            simp only [Act.put, List.getElem_toArray, List.getElem_cons_zero, List.getElem_cons_succ, List.setIfInBounds_toArray, List.set_cons_zero, List.set_cons_succ]
            refine wpAnyH_take (i := 5) (v := ?_) rfl (by kernel_rfl) (by kernel_rfl) (by kernel_rfl) (fun _ _ _ h => h) (Or.inl ⟨by rfl, ?_⟩) (sK _ LI0.out) ?_
            rotate_left
            · (intro wS hSw; (try dsimp only at hSw); go_simp; try with_reducible rfl)
            simp only [Act.put, List.getElem_toArray, List.getElem_cons_zero, List.getElem_cons_succ, List.setIfInBounds_toArray, List.set_cons_zero, List.set_cons_succ]
            refine wpAnyH_take (i := 6) (v := ?_) rfl (by kernel_rfl) (by kernel_rfl) (by kernel_rfl) (fun _ _ _ h => h) (Or.inl ⟨by rfl, ?_⟩) (sK _ LI0.out) ?_
            rotate_left
            · (intro wS hSw; (try dsimp only at hSw); go_simp; try with_reducible rfl)
            simp only [Act.put, List.getElem_toArray, List.getElem_cons_zero, List.getElem_cons_succ, List.setIfInBounds_toArray, List.set_cons_zero, List.set_cons_succ]
            refine wpAnyH_take (i := 7) (v := ?_) rfl (by kernel_rfl) (by kernel_rfl) (by kernel_rfl) (fun _ _ _ h => h) (Or.inl ⟨by rfl, ?_⟩) (sK _ LI0.out) ?_
            rotate_left
            · (intro wS hSw; (try dsimp only at hSw); go_simp; try with_reducible rfl)
            simp only [Act.put, List.getElem_toArray, List.getElem_cons_zero, List.getElem_cons_succ, List.setIfInBounds_toArray, List.set_cons_zero, List.set_cons_succ]
            refine wpAnyH_take (i := 8) (v := ?_) rfl (by kernel_rfl) (by kernel_rfl) (by kernel_rfl) (fun _ _ _ h => h) (Or.inl ⟨by rfl, ?_⟩) (sK _ LI0.out) ?_
            rotate_left
            · (intro wS hSw; (try dsimp only at hSw); go_simp; try with_reducible rfl)
            simp only [Act.put, List.getElem_toArray, List.getElem_cons_zero, List.getElem_cons_succ, List.setIfInBounds_toArray, List.set_cons_zero, List.set_cons_succ]
            refine wpAnyH_take (i := 9) (v := ?_) rfl (by kernel_rfl) (by kernel_rfl) (by kernel_rfl) (fun _ _ _ h => h) (Or.inl ⟨by rfl, ?_⟩) (sK _ LI0.out) ?_
            rotate_left
            · (intro wS hSw; (try dsimp only at hSw); go_simp; try with_reducible rfl)
            simp only [Act.put, List.getElem_toArray, List.getElem_cons_zero, List.getElem_cons_succ, List.setIfInBounds_toArray, List.set_cons_zero, List.set_cons_succ]
            refine wpAnyH_take (i := 10) (v := ?_) rfl (by kernel_rfl) (by kernel_rfl) (by kernel_rfl) (fun _ _ _ h => h) (Or.inl ⟨by rfl, ?_⟩) (sK _ LI0.out) ?_
            rotate_left
            · (intro wS hSw; (try dsimp only at hSw); go_simp; try with_reducible rfl)
            simp only [Act.put, List.getElem_toArray, List.getElem_cons_zero, List.getElem_cons_succ, List.setIfInBounds_toArray, List.set_cons_zero, List.set_cons_succ]
            refine wpAnyH_take (i := 11) (v := ?_) rfl (by kernel_rfl) (by kernel_rfl) (by kernel_rfl) (fun _ _ _ h => h) (Or.inl ⟨by rfl, ?_⟩) (sK _ LI0.out) ?_
            rotate_left
            · (intro wS hSw; (try dsimp only at hSw); go_simp; try with_reducible rfl)
            simp only [Act.put, List.getElem_toArray, List.getElem_cons_zero, List.getElem_cons_succ, List.setIfInBounds_toArray, List.set_cons_zero, List.set_cons_succ]
            refine wpAnyH_take (i := 12) (v := ?_) rfl (by kernel_rfl) (by kernel_rfl) (by kernel_rfl) (fun _ _ _ h => h) (Or.inl ⟨by rfl, ?_⟩) (sK _ LI0.out) ?_
            rotate_left
            · (intro wS hSw; (try dsimp only at hSw); go_simp; try with_reducible rfl)
            simp only [Act.put, List.getElem_toArray, List.getElem_cons_zero, List.getElem_cons_succ, List.setIfInBounds_toArray, List.set_cons_zero, List.set_cons_succ]
            refine wpAnyH_take (i := 13) (v := ?_) rfl (by kernel_rfl) (by kernel_rfl) (by kernel_rfl) (fun _ _ _ h => h) (Or.inl ⟨by rfl, ?_⟩) (sK _ LI0.out) ?_
            rotate_left
            · (intro wS hSw; (try dsimp only at hSw); go_simp; try with_reducible rfl)
            simp only [Act.put, List.getElem_toArray, List.getElem_cons_zero, List.getElem_cons_succ, List.setIfInBounds_toArray, List.set_cons_zero, List.set_cons_succ]
            refine wpAnyH_take (i := 14) (v := ?_) rfl (by kernel_rfl) (by kernel_rfl) (by kernel_rfl) (fun _ _ _ h => h) (Or.inl ⟨by rfl, ?_⟩) (sK _ LI0.out) ?_
            rotate_left
            · (intro wS hSw; (try dsimp only at hSw); go_simp; try with_reducible rfl)
            simp only [Act.put, List.getElem_toArray, List.getElem_cons_zero, List.getElem_cons_succ, List.setIfInBounds_toArray, List.set_cons_zero, List.set_cons_succ]
            refine wpAnyH_take (i := 15) (v := undef) rfl (by kernel_rfl) (by kernel_rfl) (by kernel_rfl) (fun _ _ _ h => h) (Or.inr ⟨by kernel_rfl, rfl⟩) (sK _ LI0.out) ?_
            simp only [Act.put, List.getElem_toArray, List.getElem_cons_zero, List.getElem_cons_succ, List.setIfInBounds_toArray, List.set_cons_zero, List.set_cons_succ]
            refine wpAnyH_take (i := 16) (v := undef) rfl (by kernel_rfl) (by kernel_rfl) (by kernel_rfl) (fun _ _ _ h => h) (Or.inr ⟨by kernel_rfl, rfl⟩) (sK _ LI0.out) ?_
            simp only [Act.put, List.getElem_toArray, List.getElem_cons_zero, List.getElem_cons_succ, List.setIfInBounds_toArray, List.set_cons_zero, List.set_cons_succ]
            refine wpAnyH_take (i := 17) (v := undef) rfl (by kernel_rfl) (by kernel_rfl) (by kernel_rfl) (fun _ _ _ h => h) (Or.inr ⟨by kernel_rfl, rfl⟩) (sK _ LI0.out) ?_
            simp only [Act.put, List.getElem_toArray, List.getElem_cons_zero, List.getElem_cons_succ, List.setIfInBounds_toArray, List.set_cons_zero, List.set_cons_succ]
            refine wpAnyH_take (i := 18) (v := undef) rfl (by kernel_rfl) (by kernel_rfl) (by kernel_rfl) (fun _ _ _ h => h) (Or.inr ⟨by kernel_rfl, rfl⟩) (sK _ LI0.out) ?_
            simp only [Act.put, List.getElem_toArray, List.getElem_cons_zero, List.getElem_cons_succ, List.setIfInBounds_toArray, List.set_cons_zero, List.set_cons_succ]
            refine wpAnyH_take (i := 19) (v := undef) rfl (by kernel_rfl) (by kernel_rfl) (by kernel_rfl) (fun _ _ _ h => h) (Or.inr ⟨by kernel_rfl, rfl⟩) (sK _ LI0.out) ?_
            simp only [Act.put, List.getElem_toArray, List.getElem_cons_zero, List.getElem_cons_succ, List.setIfInBounds_toArray, List.set_cons_zero, List.set_cons_succ]
            refine wpAnyH_take (i := 20) (v := undef) rfl (by kernel_rfl) (by kernel_rfl) (by kernel_rfl) (fun _ _ _ h => h) (Or.inr ⟨by kernel_rfl, rfl⟩) (sK _ LI0.out) ?_
            simp only [Act.put, List.getElem_toArray, List.getElem_cons_zero, List.getElem_cons_succ, List.setIfInBounds_toArray, List.set_cons_zero, List.set_cons_succ]
            refine wpAnyH_take (i := 21) (v := undef) rfl (by kernel_rfl) (by kernel_rfl) (by kernel_rfl) (fun _ _ _ h => h) (Or.inr ⟨by kernel_rfl, rfl⟩) (sK _ LI0.out) ?_
            simp only [Act.put, List.getElem_toArray, List.getElem_cons_zero, List.getElem_cons_succ, List.setIfInBounds_toArray, List.set_cons_zero, List.set_cons_succ]
            refine wpAnyH_take (i := 22) (v := undef) rfl (by kernel_rfl) (by kernel_rfl) (by kernel_rfl) (fun _ _ _ h => h) (Or.inr ⟨by kernel_rfl, rfl⟩) (sK _ LI0.out) ?_
            simp only [Act.put, List.getElem_toArray, List.getElem_cons_zero, List.getElem_cons_succ, List.setIfInBounds_toArray, List.set_cons_zero, List.set_cons_succ]
            refine wpAnyH_take (i := 23) (v := undef) rfl (by kernel_rfl) (by kernel_rfl) (by kernel_rfl) (fun _ _ _ h => h) (Or.inr ⟨by kernel_rfl, rfl⟩) (sK _ LI0.out) ?_
            simp only [Act.put, List.getElem_toArray, List.getElem_cons_zero, List.getElem_cons_succ, List.setIfInBounds_toArray, List.set_cons_zero, List.set_cons_succ]
            refine wpAnyH_take (i := 24) (v := undef) rfl (by kernel_rfl) (by kernel_rfl) (by kernel_rfl) (fun _ _ _ h => h) (Or.inr ⟨by kernel_rfl, rfl⟩) (sK _ LI0.out) ?_
            simp only [Act.put, List.getElem_toArray, List.getElem_cons_zero, List.getElem_cons_succ, List.setIfInBounds_toArray, List.set_cons_zero, List.set_cons_succ]
            refine wpAnyH_take (i := 25) (v := undef) rfl (by kernel_rfl) (by kernel_rfl) (by kernel_rfl) (fun _ _ _ h => h) (Or.inr ⟨by kernel_rfl, rfl⟩) (sK _ LI0.out) ?_
            simp only [Act.put, List.getElem_toArray, List.getElem_cons_zero, List.getElem_cons_succ, List.setIfInBounds_toArray, List.set_cons_zero, List.set_cons_succ]
            refine wpAnyH_take (i := 26) (v := undef) rfl (by kernel_rfl) (by kernel_rfl) (by kernel_rfl) (fun _ _ _ h => h) (Or.inr ⟨by kernel_rfl, rfl⟩) (sK _ LI0.out) ?_
            simp only [Act.put, List.getElem_toArray, List.getElem_cons_zero, List.getElem_cons_succ, List.setIfInBounds_toArray, List.set_cons_zero, List.set_cons_succ]
            refine wpAnyH_take (i := 27) (v := undef) rfl (by kernel_rfl) (by kernel_rfl) (by kernel_rfl) (fun _ _ _ h => h) (Or.inr ⟨by kernel_rfl, rfl⟩) (sK _ LI0.out) ?_
            simp only [Act.put, List.getElem_toArray, List.getElem_cons_zero, List.getElem_cons_succ, List.setIfInBounds_toArray, List.set_cons_zero, List.set_cons_succ]
            refine wpAnyH_take (i := 28) (v := undef) rfl (by kernel_rfl) (by kernel_rfl) (by kernel_rfl) (fun _ _ _ h => h) (Or.inr ⟨by kernel_rfl, rfl⟩) (sK _ LI0.out) ?_
            simp only [Act.put, List.getElem_toArray, List.getElem_cons_zero, List.getElem_cons_succ, List.setIfInBounds_toArray, List.set_cons_zero, List.set_cons_succ]
            refine wpAnyH_take (i := 29) (v := undef) rfl (by kernel_rfl) (by kernel_rfl) (by kernel_rfl) (fun _ _ _ h => h) (Or.inr ⟨by kernel_rfl, rfl⟩) (sK _ LI0.out) ?_
            simp only [Act.put, List.getElem_toArray, List.getElem_cons_zero, List.getElem_cons_succ, List.setIfInBounds_toArray, List.set_cons_zero, List.set_cons_succ]
            refine wpAnyH_take (i := 30) (v := undef) rfl (by kernel_rfl) (by kernel_rfl) (by kernel_rfl) (fun _ _ _ h => h) (Or.inr ⟨by kernel_rfl, rfl⟩) (sK _ LI0.out) ?_
            simp only [Act.put, List.getElem_toArray, List.getElem_cons_zero, List.getElem_cons_succ, List.setIfInBounds_toArray, List.set_cons_zero, List.set_cons_succ]
            refine wpAnyH_take (i := 31) (v := undef) rfl (by kernel_rfl) (by kernel_rfl) (by kernel_rfl) (fun _ _ _ h => h) (Or.inr ⟨by kernel_rfl, rfl⟩) (sK _ LI0.out) ?_
            simp only [Act.put, List.getElem_toArray, List.getElem_cons_zero, List.getElem_cons_succ, List.setIfInBounds_toArray, List.set_cons_zero, List.set_cons_succ]
            refine wpAnyH_take (i := 32) (v := undef) rfl (by kernel_rfl) (by kernel_rfl) (by kernel_rfl) (fun _ _ _ h => h) (Or.inr ⟨by kernel_rfl, rfl⟩) (sK _ LI0.out) ?_
            simp only [Act.put, List.getElem_toArray, List.getElem_cons_zero, List.getElem_cons_succ, List.setIfInBounds_toArray, List.set_cons_zero, List.set_cons_succ]
            refine wpAnyH_take (i := 33) (v := undef) rfl (by kernel_rfl) (by kernel_rfl) (by kernel_rfl) (fun _ _ _ h => h) (Or.inr ⟨by kernel_rfl, rfl⟩) (sK _ LI0.out) ?_
            simp only [Act.put, List.getElem_toArray, List.getElem_cons_zero, List.getElem_cons_succ, List.setIfInBounds_toArray, List.set_cons_zero, List.set_cons_succ]
            refine wpAnyH_take (i := 34) (v := undef) rfl (by kernel_rfl) (by kernel_rfl) (by kernel_rfl) (fun _ _ _ h => h) (Or.inr ⟨by kernel_rfl, rfl⟩) (sK _ LI0.out) ?_
            simp only [Act.put, List.getElem_toArray, List.getElem_cons_zero, List.getElem_cons_succ, List.setIfInBounds_toArray, List.set_cons_zero, List.set_cons_succ]
            refine wpAnyH_take (i := 35) (v := undef) rfl (by kernel_rfl) (by kernel_rfl) (by kernel_rfl) (fun _ _ _ h => h) (Or.inr ⟨by kernel_rfl, rfl⟩) (sK _ LI0.out) ?_
            simp only [Act.put, List.getElem_toArray, List.getElem_cons_zero, List.getElem_cons_succ, List.setIfInBounds_toArray, List.set_cons_zero, List.set_cons_succ]
            refine wpAnyH_take (i := 36) (v := undef) rfl (by kernel_rfl) (by kernel_rfl) (by kernel_rfl) (fun _ _ _ h => h) (Or.inr ⟨by kernel_rfl, rfl⟩) (sK _ LI0.out) ?_
            simp only [Act.put, List.getElem_toArray, List.getElem_cons_zero, List.getElem_cons_succ, List.setIfInBounds_toArray, List.set_cons_zero, List.set_cons_succ]
            refine wpAnyH_take (i := 37) (v := undef) rfl (by kernel_rfl) (by kernel_rfl) (by kernel_rfl) (fun _ _ _ h => h) (Or.inr ⟨by kernel_rfl, rfl⟩) (sK _ LI0.out) ?_
            simp only [Act.put, List.getElem_toArray, List.getElem_cons_zero, List.getElem_cons_succ, List.setIfInBounds_toArray, List.set_cons_zero, List.set_cons_succ]
            refine wpAnyH_take (i := 38) (v := undef) rfl (by kernel_rfl) (by kernel_rfl) (by kernel_rfl) (fun _ _ _ h => h) (Or.inr ⟨by kernel_rfl, rfl⟩) (sK _ LI0.out) ?_
            simp only [Act.put, List.getElem_toArray, List.getElem_cons_zero, List.getElem_cons_succ, List.setIfInBounds_toArray, List.set_cons_zero, List.set_cons_succ]
            refine wpAnyH_take (i := 39) (v := undef) rfl (by kernel_rfl) (by kernel_rfl) (by kernel_rfl) (fun _ _ _ h => h) (Or.inr ⟨by kernel_rfl, rfl⟩) (sK _ LI0.out) ?_
            simp only [Act.put, List.getElem_toArray, List.getElem_cons_zero, List.getElem_cons_succ, List.setIfInBounds_toArray, List.set_cons_zero, List.set_cons_succ]
            refine wpAnyH_take (i := 40) (v := undef) rfl (by kernel_rfl) (by kernel_rfl) (by kernel_rfl) (fun _ _ _ h => h) (Or.inr ⟨by kernel_rfl, rfl⟩) (sK _ LI0.out) ?_
            simp only [Act.put, List.getElem_toArray, List.getElem_cons_zero, List.getElem_cons_succ, List.setIfInBounds_toArray, List.set_cons_zero, List.set_cons_succ]
            refine wpAnyH_take (i := 41) (v := undef) rfl (by kernel_rfl) (by kernel_rfl) (by kernel_rfl) (fun _ _ _ h => h) (Or.inr ⟨by kernel_rfl, rfl⟩) (sK _ LI0.out) ?_
            simp only [Act.put, List.getElem_toArray, List.getElem_cons_zero, List.getElem_cons_succ, List.setIfInBounds_toArray, List.set_cons_zero, List.set_cons_succ]
            refine wpAnyH_take (i := 42) (v := undef) rfl (by kernel_rfl) (by kernel_rfl) (by kernel_rfl) (fun _ _ _ h => h) (Or.inr ⟨by kernel_rfl, rfl⟩) (sK _ LI0.out) ?_
            simp only [Act.put, List.getElem_toArray, List.getElem_cons_zero, List.getElem_cons_succ, List.setIfInBounds_toArray, List.set_cons_zero, List.set_cons_succ]
            refine wpAnyH_take (i := 43) (v := undef) rfl (by kernel_rfl) (by kernel_rfl) (by kernel_rfl) (fun _ _ _ h => h) (Or.inr ⟨by kernel_rfl, rfl⟩) (sK _ LI0.out) ?_
            simp only [Act.put, List.getElem_toArray, List.getElem_cons_zero, List.getElem_cons_succ, List.setIfInBounds_toArray, List.set_cons_zero, List.set_cons_succ]
            refine wpAnyH_take (i := 44) (v := undef) rfl (by kernel_rfl) (by kernel_rfl) (by kernel_rfl) (fun _ _ _ h => h) (Or.inr ⟨by kernel_rfl, rfl⟩) (sK _ LI0.out) ?_
            simp only [Act.put, List.getElem_toArray, List.getElem_cons_zero, List.getElem_cons_succ, List.setIfInBounds_toArray, List.set_cons_zero, List.set_cons_succ]
            refine wpAnyH_take (i := 45) (v := undef) rfl (by kernel_rfl) (by kernel_rfl) (by kernel_rfl) (fun _ _ _ h => h) (Or.inr ⟨by kernel_rfl, rfl⟩) (sK _ LI0.out) ?_
            simp only [Act.put, List.getElem_toArray, List.getElem_cons_zero, List.getElem_cons_succ, List.setIfInBounds_toArray, List.set_cons_zero, List.set_cons_succ]
            refine wpAnyH_take (i := 46) (v := undef) rfl (by kernel_rfl) (by kernel_rfl) (by kernel_rfl) (fun _ _ _ h => h) (Or.inr ⟨by kernel_rfl, rfl⟩) (sK _ LI0.out) ?_
            simp only [Act.put, List.getElem_toArray, List.getElem_cons_zero, List.getElem_cons_succ, List.setIfInBounds_toArray, List.set_cons_zero, List.set_cons_succ]
            refine wpAnyH_take (i := 47) (v := ?_) rfl (by kernel_rfl) (by kernel_rfl) (by kernel_rfl) (fun _ _ _ h => h) (Or.inl ⟨by rfl, ?_⟩) (sK _ LI0.out) ?_
            rotate_left
            · (intro wS hSw; (try dsimp only at hSw); go_simp; try with_reducible rfl)
            simp only [Act.put, List.getElem_toArray, List.getElem_cons_zero, List.getElem_cons_succ, List.setIfInBounds_toArray, List.set_cons_zero, List.set_cons_succ]
            refine wpAnyH_take (i := 48) (v := ?_) rfl (by kernel_rfl) (by kernel_rfl) (by kernel_rfl) (fun _ _ _ h => h) (Or.inl ⟨by rfl, ?_⟩) (sK _ LI0.out) ?_
            rotate_left
            · (intro wS hSw; (try dsimp only at hSw); go_simp; try with_reducible rfl)
            simp only [Act.put, List.getElem_toArray, List.getElem_cons_zero, List.getElem_cons_succ, List.setIfInBounds_toArray, List.set_cons_zero, List.set_cons_succ]
            refine wpAnyH_done (by kernel_rfl) ?_ _
            have HI := LI0
            have EE := E0
            have kI0 : v1.drew.cell? ⟨gb, go + i * 2, none⟩ = some (.int .i64 a) := HI.out 0 _ rfl
            have kI1 : v1.drew.cell? ⟨gb, go + i * 2 + 1, none⟩ = some (.int .i64 b) := HI.out 1 _ rfl
            go_wp2_with fail
            go_loopg [12] (b - a) (fun g f12 wr => ∃ q : Nat, a ≤ q ∧ q ≤ b ∧ g = b - q ∧ f12 = .int .i64 q ∧ Below w2.heap.size w2 wr)
            case atStart => exact ⟨a, Nat.le_refl _, by omega, rfl, rfl, EE.out⟩
            case round =>
              obtain ⟨q, hq1, hq2, rfl, rfl, hb⟩ := hrel
              rename World => w5
              have EQ := Lib.hid hb
              clear hb
              obtain ⟨gb2, go2, eg, hlt2, hcl⟩ := rdZ_row (HZR.out.kept EQ.out) (by omega) (by omega)
              cases eg
              have m0 : w5.cell? ⟨gb, go + i * 2, none⟩ = some (.int .i64 a) := (hcl i 0 h (by omega)).trans (by rw [He1.out])
              have m1 : w5.cell? ⟨gb, go + i * 2 + 1, none⟩ = some (.int .i64 b) := (hcl i 1 h (by omega)).trans (by rw [He2.out])
              clear hcl
              by_cases hqb : q < b
              · have KO := fun w hz => zof_any (some ⟨gb, go, none⟩) c' cn z (q : Int) w (by omega) hz
                simp only [HOF.out q hq1 hqb] at KO
                have HKO := Lib.hid KO
                clear KO
                have qI : (q : Int) < (b : Int) := by omega
                have qn : ((i : Int) != (i : Int)) = false := by simp
                go_wp2_with fail
                refine (HKO.out _ (HZR.out.kept EQ.out)).mono ?_
                rintro e w6 ⟨rfl, hb⟩
                have E6 := Lib.hid (EQ.out.trans (hb.mono EQ.out.size))
                clear hb
                go_wp2_with fail
                go_roundg (b - (q + 1))
                case measure => omega
                case rel => exact ⟨q + 1, by omega, by omega, rfl, by go_num, E6.out⟩
              · obtain rfl : q = b := by omega
                have qI : ¬ ((q : Int) < (q : Int)) := by omega
                go_wp2_with fail
                go_roundg (cn - (i + 1))
                case measure => omega
                case rel => exact ⟨i + 1, by omega, rfl, by go_num, by rw [HMS.out, HMX2.out], EQ.out⟩
          · obtain ⟨t2, ht2⟩ : ∃ t2, i = t2 + 1 := ⟨i - 1, by omega⟩
            obtain ⟨a', b', f1, f2, f3, f4, f5, f6, f7⟩ := HZN.out.each t2 (by omega)
            have CH := HZN.out.chain t2 (by omega)
            rw [← ht2, He1.out, f2] at CH
            have ab : a = b' := by omega
            obtain ⟨gb3, go3, eg, hlt3, hcl⟩ := rdZ_row (HZR.out.kept EE.out) (by omega) (by omega)
            cases eg
            have HJ := Lib.hid (at2 (show v1.cell? ⟨gb, go + t2 * 2, none⟩ = some (.int .i64 a') from (hcl t2 0 (by omega) (by omega)).trans (by rw [f1])) (show v1.cell? ⟨gb, go + t2 * 2 + 1, none⟩ = some (.int .i64 a) from (hcl t2 1 (by omega) (by omega)).trans (by rw [f2, ab])))
            obtain ⟨lb, lo, rfl, hltl, hcc⟩ := rdI_row (HRL.out.kept EE.out) (by have := HN.out; omega)
            obtain ⟨la, hla⟩ : ∃ x, zat zs a = x := ⟨_, rfl⟩
            have HL := Lib.hid (at1 (show v1.cell? ⟨lb, lo + a, none⟩ = some (.int .i64 la) from by rw [← hla]; exact hcc a (by have := HN.out; omega)))
            have W2E := HWE.out t2 a' b' (by omega) f1 f2 f3 f4
            have FE2 := HFE.out t2
            rw [f1, f2] at FE2
            have KW2 := fun w hr => JW.out (a' : Int) (b' : Int) w hr
            simp only [FE2] at KW2
            have full := f7 (by omega)
            rw [← ab, hla] at full
            rw [← ab] at W2E KW2 f6 f5
            obtain ⟨W2, hW2⟩ : ∃ x, f t2 = x := ⟨_, rfl⟩
            simp only [hW2] at KW2
            rw [hW2] at W2E
            have HKW2 := Lib.hid KW2
            have hla2 := HQ3.out a (by omega)
            rw [hla] at hla2
            rw [← W2E] at full f5 f6
            have hws : IntKind.i64.wrap (W2 + la) = W2 + la := IntWalk.i64_in _ (by omega)
            have dws : decide (W2 + la ≤ M) = false := decide_eq_false (by omega)
            have di : decide (0 < (i : Int)) = true := decide_eq_true (by omega)
            have di2 : (0 : Int) < (i : Int) := by omega
            have diN : decide (0 < i) = true := decide_eq_true (by omega)
            have j1 : IntKind.i64.wrap ((i : Int) - 1) = (i : Int) - 1 := IntWalk.i64_in _ (by omega)
            have j2 : (0 : Int) ≤ (i : Int) - 1 := by omega
            have j3 : (i : Int) - 1 < (cn : Int) := by omega
            have j4 : ((i : Int) - 1).toNat = t2 := by omega
            have j5 : (1 : Int) ≤ (i : Int) := by omega
            have j6 : 1 ≤ i := by omega
            have an : (a : Int) < (n : Int) := by omega
            have qa : ((a : Int) != (a : Int)) = false := by simp
            have T2 := Lib.hid ht2
            have HI0 := Lib.hid hi0
            clear hi0
            clear hcl hcc hla f1 f2 f7 CH ab FE2 KW2 hW2 W2E full ht2 f3 f4 f5 f6 hla2
            go_wp2_with fail
            have sK : ∀ X, At X gb (go + i * 2) #[.int .i64 a, .int .i64 b] → At X gb (go + t2 * 2) #[.int .i64 a', .int .i64 a] → At X lb (lo + a) #[.int .i64 la] → (fun X => X.cell? ⟨gb, go + i * 2, none⟩ = some (.int .i64 a) ∧ X.cell? ⟨gb, go + i * 2 + 1, none⟩ = some (.int .i64 b) ∧ X.cell? ⟨gb, go + t2 * 2, none⟩ = some (.int .i64 a') ∧ X.cell? ⟨gb, go + t2 * 2 + 1, none⟩ = some (.int .i64 a) ∧ X.cell? ⟨lb, lo + a, none⟩ = some (.int .i64 la)) X := fun X hI hJ hL => ⟨hI 0 _ rfl, hI 1 _ rfl, hJ 0 _ rfl, hJ 1 _ rfl, hL 0 _ rfl⟩
            have LI0 := Lib.hid (HI.out.drew)
            have LJ0 := Lib.hid (HJ.out.drew)
            have LL0 := Lib.hid (HL.out.drew)
            have E0 := Lib.hid (EE.out.drew)
            clear k0 k1
            refine wp_region_held_drew (S := (fun X => X.cell? ⟨gb, go + i * 2, none⟩ = some (.int .i64 a) ∧ X.cell? ⟨gb, go + i * 2 + 1, none⟩ = some (.int .i64 b) ∧ X.cell? ⟨gb, go + t2 * 2, none⟩ = some (.int .i64 a') ∧ X.cell? ⟨gb, go + t2 * 2 + 1, none⟩ = some (.int .i64 a) ∧ X.cell? ⟨lb, lo + a, none⟩ = some (.int .i64 la))) (by kernel_rfl) (sK _ LI0.out LJ0.out LL0.out) (fun hHeld => ?_)
            clear hHeld
            refine wpAnyH_take (i := 0) (v := ?_) rfl (by kernel_rfl) (by kernel_rfl) (by kernel_rfl) (fun _ _ _ h => h) (Or.inl ⟨by rfl, ?_⟩) (sK _ LI0.out LJ0.out LL0.out) ?_
            rotate_left
            · (intro wS hSw; (try dsimp only at hSw); go_simp; try with_reducible rfl)
            simp only [Act.put, List.getElem_toArray, List.getElem_cons_zero, List.getElem_cons_succ, List.setIfInBounds_toArray, List.set_cons_zero, List.set_cons_succ]
            refine wpAnyH_take (i := 1) (v := ?_) rfl (by kernel_rfl) (by kernel_rfl) (by kernel_rfl) (fun _ _ _ h => h) (Or.inl ⟨by rfl, ?_⟩) (sK _ LI0.out LJ0.out LL0.out) ?_
            rotate_left
            · (intro wS hSw; (try dsimp only at hSw); go_simp; try with_reducible rfl)
            simp only [Act.put, List.getElem_toArray, List.getElem_cons_zero, List.getElem_cons_succ, List.setIfInBounds_toArray, List.set_cons_zero, List.set_cons_succ]
            refine wpAnyH_take (i := 2) (v := ?_) rfl (by kernel_rfl) (by kernel_rfl) (by kernel_rfl) (fun _ _ _ h => h) (Or.inl ⟨by rfl, ?_⟩) (sK _ LI0.out LJ0.out LL0.out) ?_
            rotate_left
            · (intro wS hSw; (try dsimp only at hSw); go_simp; try with_reducible rfl)
            simp only [Act.put, List.getElem_toArray, List.getElem_cons_zero, List.getElem_cons_succ, List.setIfInBounds_toArray, List.set_cons_zero, List.set_cons_succ]
            refine wpAnyH_take (i := 3) (v := ?_) rfl (by kernel_rfl) (by kernel_rfl) (by kernel_rfl) (fun _ _ _ h => h) (Or.inl ⟨by rfl, ?_⟩) (sK _ LI0.out LJ0.out LL0.out) ?_
            rotate_left
            · (intro wS hSw; (try dsimp only at hSw); go_simp; try with_reducible rfl)
            simp only [Act.put, List.getElem_toArray, List.getElem_cons_zero, List.getElem_cons_succ, List.setIfInBounds_toArray, List.set_cons_zero, List.set_cons_succ]
            refine wpAnyH_take (i := 4) (v := ?_) rfl (by kernel_rfl) (by kernel_rfl) (by kernel_rfl) (fun _ _ _ h => h) (Or.inl ⟨by rfl, ?_⟩) (sK _ LI0.out LJ0.out LL0.out) ?_
            rotate_left
            · (intro wS hSw; (try dsimp only at hSw); go_simp; try with_reducible rfl)
            simp only [Act.put, List.getElem_toArray, List.getElem_cons_zero, List.getElem_cons_succ, List.setIfInBounds_toArray, List.set_cons_zero, List.set_cons_succ]
            refine wpAnyH_take (i := 5) (v := ?_) rfl (by kernel_rfl) (by kernel_rfl) (by kernel_rfl) (fun _ _ _ h => h) (Or.inl ⟨by rfl, ?_⟩) (sK _ LI0.out LJ0.out LL0.out) ?_
            rotate_left
            · (intro wS hSw; (try dsimp only at hSw); go_simp; try with_reducible rfl)
            simp only [Act.put, List.getElem_toArray, List.getElem_cons_zero, List.getElem_cons_succ, List.setIfInBounds_toArray, List.set_cons_zero, List.set_cons_succ]
            refine wpAnyH_take (i := 6) (v := ?_) rfl (by kernel_rfl) (by kernel_rfl) (by kernel_rfl) (fun _ _ _ h => h) (Or.inl ⟨by rfl, ?_⟩) (sK _ LI0.out LJ0.out LL0.out) ?_
            rotate_left
            · (intro wS hSw; (try dsimp only at hSw); go_simp; try with_reducible rfl)
            simp only [Act.put, List.getElem_toArray, List.getElem_cons_zero, List.getElem_cons_succ, List.setIfInBounds_toArray, List.set_cons_zero, List.set_cons_succ]
            refine wpAnyH_take (i := 7) (v := ?_) rfl (by kernel_rfl) (by kernel_rfl) (by kernel_rfl) (fun _ _ _ h => h) (Or.inl ⟨by rfl, ?_⟩) (sK _ LI0.out LJ0.out LL0.out) ?_
            rotate_left
            · (intro wS hSw; (try dsimp only at hSw); go_simp; try with_reducible rfl)
            simp only [Act.put, List.getElem_toArray, List.getElem_cons_zero, List.getElem_cons_succ, List.setIfInBounds_toArray, List.set_cons_zero, List.set_cons_succ]
            refine wpAnyH_take (i := 8) (v := ?_) rfl (by kernel_rfl) (by kernel_rfl) (by kernel_rfl) (fun _ _ _ h => h) (Or.inl ⟨by rfl, ?_⟩) (sK _ LI0.out LJ0.out LL0.out) ?_
            rotate_left
            · (intro wS hSw; (try dsimp only at hSw); go_simp; try with_reducible rfl)
            simp only [Act.put, List.getElem_toArray, List.getElem_cons_zero, List.getElem_cons_succ, List.setIfInBounds_toArray, List.set_cons_zero, List.set_cons_succ]
            refine wpAnyH_take (i := 9) (v := ?_) rfl (by kernel_rfl) (by kernel_rfl) (by kernel_rfl) (fun _ _ _ h => h) (Or.inl ⟨by rfl, ?_⟩) (sK _ LI0.out LJ0.out LL0.out) ?_
            rotate_left
            · (intro wS hSw; (try dsimp only at hSw); go_simp; try with_reducible rfl)
            simp only [Act.put, List.getElem_toArray, List.getElem_cons_zero, List.getElem_cons_succ, List.setIfInBounds_toArray, List.set_cons_zero, List.set_cons_succ]
            refine wpAnyH_take (i := 10) (v := ?_) rfl (by kernel_rfl) (by kernel_rfl) (by kernel_rfl) (fun _ _ _ h => h) (Or.inl ⟨by rfl, ?_⟩) (sK _ LI0.out LJ0.out LL0.out) ?_
            rotate_left
            · (intro wS hSw; (try dsimp only at hSw); go_simp; try with_reducible rfl)
            simp only [Act.put, List.getElem_toArray, List.getElem_cons_zero, List.getElem_cons_succ, List.setIfInBounds_toArray, List.set_cons_zero, List.set_cons_succ]
            refine wpAnyH_take (i := 11) (v := ?_) rfl (by kernel_rfl) (by kernel_rfl) (by kernel_rfl) (fun _ _ _ h => h) (Or.inl ⟨by rfl, ?_⟩) (sK _ LI0.out LJ0.out LL0.out) ?_
            rotate_left
            · (intro wS hSw; (try dsimp only at hSw); go_simp; try with_reducible rfl)
            simp only [Act.put, List.getElem_toArray, List.getElem_cons_zero, List.getElem_cons_succ, List.setIfInBounds_toArray, List.set_cons_zero, List.set_cons_succ]
            refine wpAnyH_take (i := 12) (v := ?_) rfl (by kernel_rfl) (by kernel_rfl) (by kernel_rfl) (fun _ _ _ h => h) (Or.inl ⟨by rfl, ?_⟩) (sK _ LI0.out LJ0.out LL0.out) ?_
            rotate_left
            · (intro wS hSw; (try dsimp only at hSw); go_simp; try with_reducible rfl)
            simp only [Act.put, List.getElem_toArray, List.getElem_cons_zero, List.getElem_cons_succ, List.setIfInBounds_toArray, List.set_cons_zero, List.set_cons_succ]
            refine wpAnyH_take (i := 13) (v := ?_) rfl (by kernel_rfl) (by kernel_rfl) (by kernel_rfl) (fun _ _ _ h => h) (Or.inl ⟨by rfl, ?_⟩) (sK _ LI0.out LJ0.out LL0.out) ?_
            rotate_left
            · (intro wS hSw; (try dsimp only at hSw); go_simp; try with_reducible rfl)
            simp only [Act.put, List.getElem_toArray, List.getElem_cons_zero, List.getElem_cons_succ, List.setIfInBounds_toArray, List.set_cons_zero, List.set_cons_succ]
            refine wpAnyH_take (i := 14) (v := ?_) rfl (by kernel_rfl) (by kernel_rfl) (by kernel_rfl) (fun _ _ _ h => h) (Or.inl ⟨by rfl, ?_⟩) (sK _ LI0.out LJ0.out LL0.out) ?_
            rotate_left
            · (intro wS hSw; (try dsimp only at hSw); go_simp; try with_reducible rfl)
            simp only [Act.put, List.getElem_toArray, List.getElem_cons_zero, List.getElem_cons_succ, List.setIfInBounds_toArray, List.set_cons_zero, List.set_cons_succ]
            refine wpAnyH_take (i := 15) (v := ?_) rfl (by kernel_rfl) (by kernel_rfl) (by kernel_rfl) (fun _ _ _ h => h) (Or.inl ⟨by rfl, ?_⟩) (sK _ LI0.out LJ0.out LL0.out) ?_
            rotate_left
            · (intro wS hSw; (try dsimp only at hSw); go_simp; try with_reducible rfl)
            simp only [Act.put, List.getElem_toArray, List.getElem_cons_zero, List.getElem_cons_succ, List.setIfInBounds_toArray, List.set_cons_zero, List.set_cons_succ]
            refine wpAnyH_take (i := 16) (v := ?_) rfl (by kernel_rfl) (by kernel_rfl) (by kernel_rfl) (fun _ _ _ h => h) (Or.inl ⟨by rfl, ?_⟩) (sK _ LI0.out LJ0.out LL0.out) ?_
            rotate_left
            · (intro wS hSw; (try dsimp only at hSw); go_simp; try with_reducible rfl)
            simp only [Act.put, List.getElem_toArray, List.getElem_cons_zero, List.getElem_cons_succ, List.setIfInBounds_toArray, List.set_cons_zero, List.set_cons_succ]
            refine wpAnyH_take (i := 17) (v := ?_) rfl (by kernel_rfl) (by kernel_rfl) (by kernel_rfl) (fun _ _ _ h => h) (Or.inl ⟨by rfl, ?_⟩) (sK _ LI0.out LJ0.out LL0.out) ?_
            rotate_left
            · (intro wS hSw; (try dsimp only at hSw); go_simp; try with_reducible rfl)
            simp only [Act.put, List.getElem_toArray, List.getElem_cons_zero, List.getElem_cons_succ, List.setIfInBounds_toArray, List.set_cons_zero, List.set_cons_succ]
            refine wpAnyH_take (i := 18) (v := ?_) rfl (by kernel_rfl) (by kernel_rfl) (by kernel_rfl) (fun _ _ _ h => h) (Or.inl ⟨by rfl, ?_⟩) (sK _ LI0.out LJ0.out LL0.out) ?_
            rotate_left
            · (intro wS hSw; (try dsimp only at hSw); go_simp; try with_reducible rfl)
            simp only [Act.put, List.getElem_toArray, List.getElem_cons_zero, List.getElem_cons_succ, List.setIfInBounds_toArray, List.set_cons_zero, List.set_cons_succ]
            refine wpAnyH_take (i := 19) (v := ?_) rfl (by kernel_rfl) (by kernel_rfl) (by kernel_rfl) (fun _ _ _ h => h) (Or.inl ⟨by rfl, ?_⟩) (sK _ LI0.out LJ0.out LL0.out) ?_
            rotate_left
            · (intro wS hSw; (try dsimp only at hSw); go_simp; try with_reducible rfl)
            simp only [Act.put, List.getElem_toArray, List.getElem_cons_zero, List.getElem_cons_succ, List.setIfInBounds_toArray, List.set_cons_zero, List.set_cons_succ]
            refine wpAnyH_take (i := 20) (v := ?_) rfl (by kernel_rfl) (by kernel_rfl) (by kernel_rfl) (fun _ _ _ h => h) (Or.inl ⟨by rfl, ?_⟩) (sK _ LI0.out LJ0.out LL0.out) ?_
            rotate_left
            · (intro wS hSw; (try dsimp only at hSw); go_simp; try with_reducible rfl)
            simp only [Act.put, List.getElem_toArray, List.getElem_cons_zero, List.getElem_cons_succ, List.setIfInBounds_toArray, List.set_cons_zero, List.set_cons_succ]
            refine wpAnyH_take (i := 21) (v := ?_) rfl (by kernel_rfl) (by kernel_rfl) (by kernel_rfl) (fun _ _ _ h => h) (Or.inl ⟨by rfl, ?_⟩) (sK _ LI0.out LJ0.out LL0.out) ?_
            rotate_left
            · (intro wS hSw; (try dsimp only at hSw); go_simp; try with_reducible rfl)
            simp only [Act.put, List.getElem_toArray, List.getElem_cons_zero, List.getElem_cons_succ, List.setIfInBounds_toArray, List.set_cons_zero, List.set_cons_succ]
            refine wpAnyH_take (i := 22) (v := ?_) rfl (by kernel_rfl) (by kernel_rfl) (by kernel_rfl) (fun _ _ _ h => h) (Or.inl ⟨by rfl, ?_⟩) (sK _ LI0.out LJ0.out LL0.out) ?_
            rotate_left
            · (intro wS hSw; (try dsimp only at hSw); go_simp; try with_reducible rfl)
            simp only [Act.put, List.getElem_toArray, List.getElem_cons_zero, List.getElem_cons_succ, List.setIfInBounds_toArray, List.set_cons_zero, List.set_cons_succ]
            refine wpAnyH_take (i := 23) (v := ?_) rfl (by kernel_rfl) (by kernel_rfl) (by kernel_rfl) (fun _ _ _ h => h) (Or.inl ⟨by rfl, ?_⟩) (sK _ LI0.out LJ0.out LL0.out) ?_
            rotate_left
            · (intro wS hSw; (try dsimp only at hSw); go_simp; try with_reducible rfl)
            simp only [Act.put, List.getElem_toArray, List.getElem_cons_zero, List.getElem_cons_succ, List.setIfInBounds_toArray, List.set_cons_zero, List.set_cons_succ]
            refine wpAnyH_take (i := 24) (v := ?_) rfl (by kernel_rfl) (by kernel_rfl) (by kernel_rfl) (fun _ _ _ h => h) (Or.inl ⟨by rfl, ?_⟩) (sK _ LI0.out LJ0.out LL0.out) ?_
            rotate_left
            · (intro wS hSw; (try dsimp only at hSw); go_simp; try with_reducible rfl)
            simp only [Act.put, List.getElem_toArray, List.getElem_cons_zero, List.getElem_cons_succ, List.setIfInBounds_toArray, List.set_cons_zero, List.set_cons_succ]
            refine wpAnyH_take (i := 25) (v := ?_) rfl (by kernel_rfl) (by kernel_rfl) (by kernel_rfl) (fun _ _ _ h => h) (Or.inl ⟨by rfl, ?_⟩) (sK _ LI0.out LJ0.out LL0.out) ?_
            rotate_left
            · (intro wS hSw; (try dsimp only at hSw); go_simp; try with_reducible rfl)
            simp only [Act.put, List.getElem_toArray, List.getElem_cons_zero, List.getElem_cons_succ, List.setIfInBounds_toArray, List.set_cons_zero, List.set_cons_succ]
            refine wpAnyH_take (i := 26) (v := ?_) rfl (by kernel_rfl) (by kernel_rfl) (by kernel_rfl) (fun _ _ _ h => h) (Or.inl ⟨by rfl, ?_⟩) (sK _ LI0.out LJ0.out LL0.out) ?_
            rotate_left
            · (intro wS hSw; (try dsimp only at hSw); go_simp; try with_reducible rfl)
            simp only [Act.put, List.getElem_toArray, List.getElem_cons_zero, List.getElem_cons_succ, List.setIfInBounds_toArray, List.set_cons_zero, List.set_cons_succ]
            refine wpAnyH_take (i := 27) (v := ?_) rfl (by kernel_rfl) (by kernel_rfl) (by kernel_rfl) (fun _ _ _ h => h) (Or.inl ⟨by rfl, ?_⟩) (sK _ LI0.out LJ0.out LL0.out) ?_
            rotate_left
            · (intro wS hSw; (try dsimp only at hSw); go_simp; try with_reducible rfl)
            simp only [Act.put, List.getElem_toArray, List.getElem_cons_zero, List.getElem_cons_succ, List.setIfInBounds_toArray, List.set_cons_zero, List.set_cons_succ]
            refine wpAnyH_take (i := 28) (v := ?_) rfl (by kernel_rfl) (by kernel_rfl) (by kernel_rfl) (fun _ _ _ h => h) (Or.inl ⟨by rfl, ?_⟩) (sK _ LI0.out LJ0.out LL0.out) ?_
            rotate_left
            · (intro wS hSw; (try dsimp only at hSw); go_simp; try with_reducible rfl)
            simp only [Act.put, List.getElem_toArray, List.getElem_cons_zero, List.getElem_cons_succ, List.setIfInBounds_toArray, List.set_cons_zero, List.set_cons_succ]
            refine wpAnyH_take (i := 29) (v := ?_) rfl (by kernel_rfl) (by kernel_rfl) (by kernel_rfl) (fun _ _ _ h => h) (Or.inl ⟨by rfl, ?_⟩) (sK _ LI0.out LJ0.out LL0.out) ?_
            rotate_left
            · (intro wS hSw; (try dsimp only at hSw); go_simp; try with_reducible rfl)
            simp only [Act.put, List.getElem_toArray, List.getElem_cons_zero, List.getElem_cons_succ, List.setIfInBounds_toArray, List.set_cons_zero, List.set_cons_succ]
            refine wpAnyH_take (i := 30) (v := ?_) rfl (by kernel_rfl) (by kernel_rfl) (by kernel_rfl) (fun _ _ _ h => h) (Or.inl ⟨by rfl, ?_⟩) (sK _ LI0.out LJ0.out LL0.out) ?_
            rotate_left
            · (intro wS hSw; (try dsimp only at hSw); go_simp; try with_reducible rfl)
            simp only [Act.put, List.getElem_toArray, List.getElem_cons_zero, List.getElem_cons_succ, List.setIfInBounds_toArray, List.set_cons_zero, List.set_cons_succ]
            refine wpAnyH_take (i := 31) (v := ?_) rfl (by kernel_rfl) (by kernel_rfl) (by kernel_rfl) (fun _ _ _ h => h) (Or.inl ⟨by rfl, ?_⟩) (sK _ LI0.out LJ0.out LL0.out) ?_
            rotate_left
            · (intro wS hSw; (try dsimp only at hSw); go_simp; try with_reducible rfl)
            simp only [Act.put, List.getElem_toArray, List.getElem_cons_zero, List.getElem_cons_succ, List.setIfInBounds_toArray, List.set_cons_zero, List.set_cons_succ]
            refine wpAnyH_take (i := 32) (v := ?_) rfl (by kernel_rfl) (by kernel_rfl) (by kernel_rfl) (fun _ _ _ h => h) (Or.inl ⟨by rfl, ?_⟩) (sK _ LI0.out LJ0.out LL0.out) ?_
            rotate_left
            · (intro wS hSw; (try dsimp only at hSw); go_simp; try with_reducible rfl)
            simp only [Act.put, List.getElem_toArray, List.getElem_cons_zero, List.getElem_cons_succ, List.setIfInBounds_toArray, List.set_cons_zero, List.set_cons_succ]
            refine wpAnyH_take (i := 33) (v := ?_) rfl (by kernel_rfl) (by kernel_rfl) (by kernel_rfl) (fun _ _ _ h => h) (Or.inl ⟨by rfl, ?_⟩) (sK _ LI0.out LJ0.out LL0.out) ?_
            rotate_left
            · (intro wS hSw; (try dsimp only at hSw); go_simp; try with_reducible rfl)
            simp only [Act.put, List.getElem_toArray, List.getElem_cons_zero, List.getElem_cons_succ, List.setIfInBounds_toArray, List.set_cons_zero, List.set_cons_succ]
            refine wpAnyH_take (i := 35) (v := ?_) rfl (by kernel_rfl) (by kernel_rfl) (by kernel_rfl) (fun _ _ _ h => h) (Or.inl ⟨by rfl, ?_⟩) (sK _ LI0.out LJ0.out LL0.out) ?_
            rotate_left
            · (intro wS hSw; (try dsimp only at hSw); go_simp; try with_reducible rfl)
            simp only [Act.put, List.getElem_toArray, List.getElem_cons_zero, List.getElem_cons_succ, List.setIfInBounds_toArray, List.set_cons_zero, List.set_cons_succ]
            refine wpAnyH_take (i := 36) (v := ?_) rfl (by kernel_rfl) (by kernel_rfl) (by kernel_rfl) (fun _ _ _ h => h) (Or.inl ⟨by rfl, ?_⟩) (sK _ LI0.out LJ0.out LL0.out) ?_
            rotate_left
            · (intro wS hSw; (try dsimp only at hSw); go_simp; try with_reducible rfl)
            simp only [Act.put, List.getElem_toArray, List.getElem_cons_zero, List.getElem_cons_succ, List.setIfInBounds_toArray, List.set_cons_zero, List.set_cons_succ]
            refine wpAnyH_take (i := 37) (v := ?_) rfl (by kernel_rfl) (by kernel_rfl) (by kernel_rfl) (fun _ _ _ h => h) (Or.inl ⟨by rfl, ?_⟩) (sK _ LI0.out LJ0.out LL0.out) ?_
            rotate_left
            · (intro wS hSw; (try dsimp only at hSw); go_simp; try with_reducible rfl)
            simp only [Act.put, List.getElem_toArray, List.getElem_cons_zero, List.getElem_cons_succ, List.setIfInBounds_toArray, List.set_cons_zero, List.set_cons_succ]
            refine wpAnyH_take (i := 38) (v := ?_) rfl (by kernel_rfl) (by kernel_rfl) (by kernel_rfl) (fun _ _ _ h => h) (Or.inl ⟨by rfl, ?_⟩) (sK _ LI0.out LJ0.out LL0.out) ?_
            rotate_left
            · (intro wS hSw; (try dsimp only at hSw); go_simp; try with_reducible rfl)
            simp only [Act.put, List.getElem_toArray, List.getElem_cons_zero, List.getElem_cons_succ, List.setIfInBounds_toArray, List.set_cons_zero, List.set_cons_succ]
            refine wpAnyH_take (i := 39) (v := ?_) rfl (by kernel_rfl) (by kernel_rfl) (by kernel_rfl) (fun _ _ _ h => h) (Or.inl ⟨by rfl, ?_⟩) (sK _ LI0.out LJ0.out LL0.out) ?_
            rotate_left
            · (intro wS hSw; (try dsimp only at hSw); go_simp; try with_reducible rfl)
            simp only [Act.put, List.getElem_toArray, List.getElem_cons_zero, List.getElem_cons_succ, List.setIfInBounds_toArray, List.set_cons_zero, List.set_cons_succ]
            refine wpAnyH_take (i := 40) (v := ?_) rfl (by kernel_rfl) (by kernel_rfl) (by kernel_rfl) (fun _ _ _ h => h) (Or.inl ⟨by rfl, ?_⟩) (sK _ LI0.out LJ0.out LL0.out) ?_
            rotate_left
            · (intro wS hSw; (try dsimp only at hSw); go_simp; try with_reducible rfl)
            simp only [Act.put, List.getElem_toArray, List.getElem_cons_zero, List.getElem_cons_succ, List.setIfInBounds_toArray, List.set_cons_zero, List.set_cons_succ]
            refine wpAnyH_take (i := 41) (v := ?_) rfl (by kernel_rfl) (by kernel_rfl) (by kernel_rfl) (fun _ _ _ h => h) (Or.inl ⟨by rfl, ?_⟩) (sK _ LI0.out LJ0.out LL0.out) ?_
            rotate_left
            · (intro wS hSw; (try dsimp only at hSw); go_simp; try with_reducible rfl)
            simp only [Act.put, List.getElem_toArray, List.getElem_cons_zero, List.getElem_cons_succ, List.setIfInBounds_toArray, List.set_cons_zero, List.set_cons_succ]
            refine wpAnyH_take (i := 42) (v := ?_) rfl (by kernel_rfl) (by kernel_rfl) (by kernel_rfl) (fun _ _ _ h => h) (Or.inl ⟨by rfl, ?_⟩) (sK _ LI0.out LJ0.out LL0.out) ?_
            rotate_left
            · (intro wS hSw; (try dsimp only at hSw); go_simp; try with_reducible rfl)
            simp only [Act.put, List.getElem_toArray, List.getElem_cons_zero, List.getElem_cons_succ, List.setIfInBounds_toArray, List.set_cons_zero, List.set_cons_succ]
            refine wpAnyH_take (i := 44) (v := ?_) rfl (by kernel_rfl) (by kernel_rfl) (by kernel_rfl) (fun _ _ _ h => h) (Or.inl ⟨by rfl, ?_⟩) (sK _ LI0.out LJ0.out LL0.out) ?_
            rotate_left
            · (intro wS hSw; (try dsimp only at hSw); go_simp; try with_reducible rfl)
            simp only [Act.put, List.getElem_toArray, List.getElem_cons_zero, List.getElem_cons_succ, List.setIfInBounds_toArray, List.set_cons_zero, List.set_cons_succ]
            refine wpAnyH_ready (rs := [34]) (by kernel_rfl) (by simp) ?_
            refine AllReadyH.cons rfl (fun K hK => ?_) AllReadyH.nil
            go_simp
            refine (HKW2.out _ (HRL.out.kept E0.out)).mono ?_
            rintro e r1 ⟨rfl, hb⟩
            have LI1 := Lib.hid (At.next (w := v1.drew) LI0.out hb)
            have LJ1 := Lib.hid (At.next (w := v1.drew) LJ0.out hb)
            have LL1 := Lib.hid (At.next (w := v1.drew) LL0.out hb)
            have E1 := Lib.hid (E0.out.trans (hb.mono E0.out.size))
            clear hb
            go_wp2_with fail
            refine hK.out _ _ (sK _ LI1.out LJ1.out LL1.out) (fun hHeld => ?_)
            clear hK K hHeld
            try simp only [Act.put, List.getElem_toArray, List.getElem_cons_zero, List.getElem_cons_succ, List.setIfInBounds_toArray, List.set_cons_zero, List.set_cons_succ]
            refine wpAnyH_take (i := 43) (v := ?_) rfl (by kernel_rfl) (by kernel_rfl) (by kernel_rfl) (fun _ _ _ h => h) (Or.inl ⟨by rfl, ?_⟩) (sK _ LI1.out LJ1.out LL1.out) ?_
            rotate_left
            · (intro wS hSw; (try dsimp only at hSw); go_simp; try with_reducible rfl)
            simp only [Act.put, List.getElem_toArray, List.getElem_cons_zero, List.getElem_cons_succ, List.setIfInBounds_toArray, List.set_cons_zero, List.set_cons_succ]
            refine wpAnyH_take (i := 45) (v := ?_) rfl (by kernel_rfl) (by kernel_rfl) (by kernel_rfl) (fun _ _ _ h => h) (Or.inl ⟨by rfl, ?_⟩) (sK _ LI1.out LJ1.out LL1.out) ?_
            rotate_left
            · (intro wS hSw; (try dsimp only at hSw); go_simp; try with_reducible rfl)
            simp only [Act.put, List.getElem_toArray, List.getElem_cons_zero, List.getElem_cons_succ, List.setIfInBounds_toArray, List.set_cons_zero, List.set_cons_succ]
            refine wpAnyH_take (i := 46) (v := ?_) rfl (by kernel_rfl) (by kernel_rfl) (by kernel_rfl) (fun _ _ _ h => h) (Or.inl ⟨by rfl, ?_⟩) (sK _ LI1.out LJ1.out LL1.out) ?_
            rotate_left
            · (intro wS hSw; (try dsimp only at hSw); go_simp; try with_reducible rfl)
            simp only [Act.put, List.getElem_toArray, List.getElem_cons_zero, List.getElem_cons_succ, List.setIfInBounds_toArray, List.set_cons_zero, List.set_cons_succ]
            refine wpAnyH_take (i := 47) (v := ?_) rfl (by kernel_rfl) (by kernel_rfl) (by kernel_rfl) (fun _ _ _ h => h) (Or.inl ⟨by rfl, ?_⟩) (sK _ LI1.out LJ1.out LL1.out) ?_
            rotate_left
            · (intro wS hSw; (try dsimp only at hSw); go_simp; try with_reducible rfl)
            simp only [Act.put, List.getElem_toArray, List.getElem_cons_zero, List.getElem_cons_succ, List.setIfInBounds_toArray, List.set_cons_zero, List.set_cons_succ]
            refine wpAnyH_take (i := 48) (v := ?_) rfl (by kernel_rfl) (by kernel_rfl) (by kernel_rfl) (fun _ _ _ h => h) (Or.inl ⟨by rfl, ?_⟩) (sK _ LI1.out LJ1.out LL1.out) ?_
            rotate_left
            · (intro wS hSw; (try dsimp only at hSw); go_simp; try with_reducible rfl)
            simp only [Act.put, List.getElem_toArray, List.getElem_cons_zero, List.getElem_cons_succ, List.setIfInBounds_toArray, List.set_cons_zero, List.set_cons_succ]
            refine wpAnyH_done (by kernel_rfl) ?_ _
            have HI := LI1
            have HJ := LJ1
            have HL := LL1
            have EE := E1
            have kI0 : r1.cell? ⟨gb, go + i * 2, none⟩ = some (.int .i64 a) := HI.out 0 _ rfl
            have kI1 : r1.cell? ⟨gb, go + i * 2 + 1, none⟩ = some (.int .i64 b) := HI.out 1 _ rfl
            have kJ0 : r1.cell? ⟨gb, go + t2 * 2, none⟩ = some (.int .i64 a') := HJ.out 0 _ rfl
            have kJ1 : r1.cell? ⟨gb, go + t2 * 2 + 1, none⟩ = some (.int .i64 a) := HJ.out 1 _ rfl
            have kL0 : r1.cell? ⟨lb, lo + a, none⟩ = some (.int .i64 la) := HL.out 0 _ rfl
            go_wp2_with fail
            go_loopg [12] (b - a) (fun g f12 wr => ∃ q : Nat, a ≤ q ∧ q ≤ b ∧ g = b - q ∧ f12 = .int .i64 q ∧ Below w2.heap.size w2 wr)
            case atStart => exact ⟨a, Nat.le_refl _, by omega, rfl, rfl, EE.out⟩
            case round =>
              obtain ⟨q, hq1, hq2, rfl, rfl, hb⟩ := hrel
              rename World => w5
              have EQ := Lib.hid hb
              clear hb
              obtain ⟨gb2, go2, eg, hlt2, hcl⟩ := rdZ_row (HZR.out.kept EQ.out) (by omega) (by omega)
              cases eg
              have m0 : w5.cell? ⟨gb, go + i * 2, none⟩ = some (.int .i64 a) := (hcl i 0 h (by omega)).trans (by rw [He1.out])
              have m1 : w5.cell? ⟨gb, go + i * 2 + 1, none⟩ = some (.int .i64 b) := (hcl i 1 h (by omega)).trans (by rw [He2.out])
              clear hcl
              by_cases hqb : q < b
              · have KO := fun w hz => zof_any (some ⟨gb, go, none⟩) c' cn z (q : Int) w (by omega) hz
                simp only [HOF.out q hq1 hqb] at KO
                have HKO := Lib.hid KO
                clear KO
                have qI : (q : Int) < (b : Int) := by omega
                have qn : ((i : Int) != (i : Int)) = false := by simp
                go_wp2_with fail
                refine (HKO.out _ (HZR.out.kept EQ.out)).mono ?_
                rintro e w6 ⟨rfl, hb⟩
                have E6 := Lib.hid (EQ.out.trans (hb.mono EQ.out.size))
                clear hb
                go_wp2_with fail
                go_roundg (b - (q + 1))
                case measure => omega
                case rel => exact ⟨q + 1, by omega, by omega, rfl, by go_num, E6.out⟩
              · obtain rfl : q = b := by omega
                have qI : ¬ ((q : Int) < (q : Int)) := by omega
                go_wp2_with fail
                go_roundg (cn - (i + 1))
                case measure => omega
                case rel => exact ⟨i + 1, by omega, rfl, by go_num, by rw [HMS.out, HMX2.out], EQ.out⟩
      · obtain rfl : i = cn := by omega
        have hi' : ¬ ((i : Int) < (i : Int)) := by omega
        rw [HMX.out]
        have KO1 := fun w hz => zof_any (some ⟨gb, go, none⟩) c' i z (-1) w (by omega) hz
        have KO2 := fun w hz => zof_any (some ⟨gb, go, none⟩) c' i z (n : Int) w (by omega) hz
        simp only [zn_low HZN.out] at KO1
        simp only [zn_high HZN.out] at KO2
        have HK1 := Lib.hid KO1; have HK2 := Lib.hid KO2
        clear KO1 KO2
        go_wp2_with fail
        refine (HK1.out _ (HZR.out.kept EE.out)).mono ?_
        rintro e w5 ⟨rfl, hb⟩
        have E5 := Lib.hid (EE.out.trans (hb.mono EE.out.size))
        clear hb
        go_wp2_with fail
        refine (HK2.out _ (HZR.out.kept E5.out)).mono ?_
        rintro e w6 ⟨rfl, hb⟩
        have E6 := Lib.hid (E5.out.trans (hb.mono E5.out.size))
        clear hb
        go_wp2_with fail
        refine (zalive _).mono ?_
        rintro e w7 ⟨rfl, hb⟩
        have E7 := E6.out.trans (hb.mono E6.out.size)
        go_wp2_with fail
        go_ret
        exact ⟨rfl, E2.out.trans (E7.mono E2.out.size)⟩
  · have HQ := Lib.hid hq
    clear hr hn hq
    go_enter Try.func3, Try.ntmps3
    go_wp2_with fail
    refine (JR.out _ HR.out).mono ?_
    rintro e w3 ⟨b, rfl, hbq, rfl⟩
    obtain rfl : b = false := by
      cases b
      · rfl
      · exact absurd (hbq.1 rfl) HQ.out
    clear hbq
    go_wp2_with fail
    go_ret
    exact ⟨rfl, Below.refl _ _⟩
theorem walk {A : Option Addr} {c : Nat} {zs : List Int} {k : Int} {w : World} (hl : zs.length ≤ c) (hm : c ≤ maxLen) (hr : RdI w .i64 A zs) (hk : (Lit.int .i64 k).wf = true) :
    Calls Try.prog 3 #[.slice A zs.length c, .int .i64 k] w fun e w' => e = .returned (.bool true) ∧ Below w.heap.size w w' := by
  unfold maxLen at hm
  exact walk_f A zs.length c zs k w rfl (by omega) hr

end Go.Proofs.Ytbjcigkakeffmab.zoneCuts
