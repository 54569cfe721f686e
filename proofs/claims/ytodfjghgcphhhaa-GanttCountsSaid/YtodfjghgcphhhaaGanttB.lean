/- Legs: what stands for what a car does; how much higher it came; the leg at which a count begins. -/
import Derived.Test.YtodfjghgcphhhaaRows
import Derived.Test.YtodfjghgcphhhaaRowKit
import Derived.Test.YtodfjghgcphhhaaRowS
import Derived.Test.YtodfjghgcphhhaaRowZ
import Derived.Test.YtodfjghgcphhhaaRowV
import Derived.Test.YtodfjghgcphhhaaRowW
import Derived.Test.YtodfjghgcphhhaaSlicesEq
import Derived.Test.YtodfjghgcphhhaaBlocks
import Derived.Test.YtodfjghgcphhhaaAtKit
import Derived.Test.YtodfjghgcphhhaaGanttMath
import Derived.Test.YtodfjghgcphhhaaTrackA
import Derived.WalkKit
import Derived.IntWalk
import Derived.Lib.Hide
import Derived.WalkSpells
import Derived.WalkLawsBesides
import Derived.OwnWalk
import Derived.Deep.QuietTactic
import Derived.BigQuiet
import Derived.Deep.RegionHeld3
import Derived.Deep.LoopGhost
import Derived.BigRegion
import Derived.Below
import Derived.Test.YtodfjghgcphhhaaTrackB
import Derived.Test.YtodfjghgcphhhaaGanttM2
namespace Go.Proofs.Ytodfjghgcphhhaa
open Go.RowKit
set_option linter.unusedSimpArgs false
set_option linter.unusedVariables false
def markV (u d o : Int) : Int := if 0 < o ∧ u ≤ o ∧ d ≤ o then 111 else if 0 < u ∧ d ≤ u then 47 else if 0 < d then 92 else 46
set_option maxRecDepth 100000 in
set_option maxHeartbeats 4000000 in
theorem mark_any (u d o : Int) (w : World) : Calls Try.prog 10 #[.int .i64 u, .int .i64 d, .int .i64 o] w fun e w' => e = .returned (.int .u8 (markV u d o)) ∧ Below w.heap.size w w' := by
  obtain ⟨R, hR⟩ : ∃ R, markV u d o = R := ⟨_, rfl⟩
  have HR := Lib.hid hR
  rw [hR]
  clear hR
  go_enter Try.func10, Try.ntmps10
  go_wp2_with fail
  all_goals (go_ret; exact ⟨congrArg (fun q => Ending.returned (.int .u8 q)) (by rw [← HR.out]; unfold markV; (repeat' split) <;> omega), Below.refl _ _⟩)
set_option maxRecDepth 100000 in
set_option maxHeartbeats 4000000 in
theorem dmark_any (u d o : Int) (w : World) : Calls Try.prog 11 #[.int .i64 u, .int .i64 d, .int .i64 o] w fun e w' => e = .returned (.int .u8 (markV u d o)) ∧ Below w.heap.size w w' := by
  obtain ⟨R, hR⟩ : ∃ R, markV u d o = R := ⟨_, rfl⟩
  have HR := Lib.hid hR
  rw [hR]
  clear hR
  go_enter Try.func11, Try.ntmps11
  go_wp2_with fail
  all_goals (go_ret; exact ⟨congrArg (fun q => Ending.returned (.int .u8 q)) (by rw [← HR.out]; unfold markV; (repeat' split) <;> omega), Below.refl _ _⟩)
/-- what a block holds behind a call that wrote to it alone -/
def PutG (g : Nat) (t : TypeId) (cs : Array Value) (w w' : World) : Prop := Blk w' g t cs ∧ (∀ B, B ≤ g → B ≤ w.heap.size → Below B w w') ∧ ∀ q t' ds, q ≠ g → Blk w q t' ds → Blk w' q t' ds
theorem putG_same {g : Nat} {t : TypeId} {cs : Array Value} {w : World} (h : Blk w g t cs) : PutG g t cs w w := ⟨h, fun B _ _ => Below.refl B w, fun _ _ _ _ h => h⟩
theorem putG_set {g i : Nat} {t : TypeId} {cs : Array Value} {w : World} (h : Blk w g t cs) (u : Value) : PutG g t (cs.setIfInBounds i u) w (w.setCell ⟨g, i, none⟩ u) :=
  ⟨h.set i u, fun B hB hs => (Below.refl B w).setCell (p := ⟨g, i, none⟩) hB u, fun q t' ds hq hb => hb.far (p := ⟨g, i, none⟩) hq u⟩
set_option maxRecDepth 100000 in
set_option maxHeartbeats 4000000 in
theorem goes_any (g : Nat) (u d o b k u' d' : Int) (w : World) (h : Blk w g 49 #[.int .i64 u, .int .i64 d, .int .i64 o]) (u0 : 0 ≤ u) (u1 : u ≤ 1000) (d0 : 0 ≤ d) (d1 : d ≤ 1000) (k0 : 0 ≤ k) (k1 : k ≤ 1000)
    (hu : u + (if 0 < b then k else 0) = u') (hd : d + (if b < 0 then k else 0) = d') :
    Calls Try.prog 22 #[.pointer (some ⟨g, 0, none⟩), .int .i64 b, .int .i64 k] w fun e w' => e = .returned (.tuple #[]) ∧ PutG g 49 #[.int .i64 u', .int .i64 d', .int .i64 o] w w' := by
  have c0 : w.cell? ⟨g, 0, none⟩ = some (.int .i64 u) := h.cell 0
  have c1 : w.cell? ⟨g, 1, none⟩ = some (.int .i64 d) := h.cell 1
  have f0 := h.frozen 0
  have f1 := h.frozen 1
  have w0 : IntKind.i64.wrap (u + k) = u + k := IntWalk.i64_in _ (by omega)
  have w1 : IntKind.i64.wrap (d + k) = d + k := IntWalk.i64_in _ (by omega)
  have HB := Lib.hid h
  clear h u0 u1 d0 d1 k0 k1
  rcases (show 0 < b ∨ b < 0 ∨ b = 0 by omega) with h1 | h1 | h1
  · obtain rfl : u' = u + k := by rw [if_pos h1] at hu; exact hu.symm
    obtain rfl : d' = d := by rw [if_neg (by omega)] at hd; omega
    have PG := Lib.hid (putG_set (i := 0) HB.out (.int .i64 (u + k)))
    clear hu hd HB
    go_enter Try.func22, Try.ntmps22
    go_wp2_with fail
    go_end0
    exact ⟨rfl, PG.out⟩
  · obtain rfl : u' = u := by rw [if_neg (by omega)] at hu; omega
    obtain rfl : d' = d + k := by rw [if_pos h1] at hd; exact hd.symm
    have PG := Lib.hid (putG_set (i := 1) HB.out (.int .i64 (d + k)))
    have hn : ¬ 0 < b := by omega
    clear hu hd HB
    go_enter Try.func22, Try.ntmps22
    go_wp2_with fail
    go_end0
    exact ⟨rfl, PG.out⟩
  · subst h1
    obtain rfl : u' = u := by rw [if_neg (by omega)] at hu; omega
    obtain rfl : d' = d := by rw [if_neg (by omega)] at hd; omega
    have PG := Lib.hid (putG_same HB.out)
    clear hu hd HB
    go_enter Try.func22, Try.ntmps22
    go_wp2_with fail
    go_end0
    exact ⟨rfl, PG.out⟩
theorem posL_bd {T P D : Nat → Int} {n r : Nat} {t : Int} (hf : FineL T P D n) (hr : r ≤ n) (t1 : -1073741826 ≤ t) (t2 : t ≤ 1073741826) : -4294967296 ≤ posL T P D t r ∧ posL T P D t r ≤ 4294967296 := by
  unfold posL
  split
  · omega
  · obtain ⟨f1, f2, f3, f4, f5, f6⟩ := hf.2.2 (r - 1) (by omega)
    have := dmul_bd (x := t - T (r - 1)) f1 f2 (B := 2147483652) (by omega) (by omega)
    omega
set_option maxRecDepth 100000 in
set_option maxHeartbeats 4000000 in
theorem came_any (A : Option Addr) (c n : Nat) (T P D : Nat → Int) (O : Nat → Bool) (t : Int) (w : World) (hr : RdL w A n T P D O) (hf : FineL T P D n) (t1 : -1073741825 ≤ t) (t2 : t ≤ 1073741826) :
    Calls Try.prog 23 #[.slice A n c, .int .i64 t] w fun e w' => e = .returned (.int .i64 (cameL T P D n t)) ∧ Below w.heap.size w w' := by
  have HR := Lib.hid hr
  have K1 := Lib.hid (fun w hr => at_any A c n T P D O (t - 1) w hr hf (by omega) (by omega))
  have K2 := Lib.hid (fun w hr => at_any A c n T P D O t w hr hf (by omega) (by omega))
  have hw : IntKind.i64.wrap (t - 1) = t - 1 := IntWalk.i64_in _ (by omega)
  have b1 := posL_bd hf (lastL_le T (t - 1) n) (t := t - 1) (by omega) (by omega)
  have b2 := posL_bd hf (lastL_le T t n) (t := t) (by omega) (by omega)
  obtain ⟨R, hR⟩ : ∃ R, cameL T P D n t = R := ⟨_, rfl⟩
  rw [hR]
  unfold cameL at hR
  obtain ⟨r1, h1⟩ : ∃ q, lastL T (t - 1) n = q := ⟨_, rfl⟩
  obtain ⟨r2, h2⟩ : ∃ q, lastL T t n = q := ⟨_, rfl⟩
  rw [h1] at hR K1 b1
  rw [h2] at hR K2 b2
  obtain ⟨p1, h3⟩ : ∃ q, posL T P D (t - 1) r1 = q := ⟨_, rfl⟩
  obtain ⟨p2, h4⟩ : ∃ q, posL T P D t r2 = q := ⟨_, rfl⟩
  rw [h3] at hR K1 b1
  rw [h4] at hR K2 b2
  obtain ⟨d1, h5⟩ : ∃ q, dorL O r1 = q := ⟨_, rfl⟩
  obtain ⟨d2, h6⟩ : ∃ q, dorL O r2 = q := ⟨_, rfl⟩
  rw [h5] at K1
  rw [h6] at K2
  have hw2 : IntKind.i64.wrap (p2 - p1) = p2 - p1 := IntWalk.i64_in _ (by omega)
  clear hr hf h1 h2 h3 h4 h5 h6 b1 b2 t1 t2
  by_cases z1 : r1 = 0
  · obtain rfl : R = 0 := by rw [← hR, if_pos (Or.inl z1)]
    subst z1
    clear hR
    go_enter Try.func23, Try.ntmps23
    go_wp2_with fail
    refine (K1.out _ HR.out).mono ?_
    rintro e v1 ⟨rfl, hb1⟩
    have E1 := Lib.hid hb1
    clear hb1
    go_wp2_with fail
    refine (K2.out _ (HR.out.kept E1.out)).mono ?_
    rintro e v2 ⟨rfl, hb2⟩
    have E2 := Lib.hid (E1.out.trans (hb2.mono E1.out.size))
    clear hb2
    go_wp2_with fail
    all_goals (go_ret; exact ⟨rfl, E2.out⟩)
  have e1 : decide (0 < r1) = true := decide_eq_true (by omega)
  rw [e1] at K1
  by_cases z2 : r2 = 0
  · obtain rfl : R = 0 := by rw [← hR, if_pos (Or.inr z2)]
    subst z2
    clear hR
    go_enter Try.func23, Try.ntmps23
    go_wp2_with fail
    refine (K1.out _ HR.out).mono ?_
    rintro e v1 ⟨rfl, hb1⟩
    have E1 := Lib.hid hb1
    clear hb1
    go_wp2_with fail
    refine (K2.out _ (HR.out.kept E1.out)).mono ?_
    rintro e v2 ⟨rfl, hb2⟩
    have E2 := Lib.hid (E1.out.trans (hb2.mono E1.out.size))
    clear hb2
    go_wp2_with fail
    all_goals (go_ret; exact ⟨rfl, E2.out⟩)
  · have e2 : decide (0 < r2) = true := decide_eq_true (by omega)
    rw [e2] at K2
    obtain rfl : R = p2 - p1 := by rw [← hR, if_neg (by omega)]
    clear hR
    go_enter Try.func23, Try.ntmps23
    go_wp2_with fail
    refine (K1.out _ HR.out).mono ?_
    rintro e v1 ⟨rfl, hb1⟩
    have E1 := Lib.hid hb1
    clear hb1
    go_wp2_with fail
    refine (K2.out _ (HR.out.kept E1.out)).mono ?_
    rintro e v2 ⟨rfl, hb2⟩
    have E2 := Lib.hid (E1.out.trans (hb2.mono E1.out.size))
    clear hb2
    go_wp2_with fail
    all_goals (go_ret; exact ⟨rfl, E2.out⟩)
set_option maxRecDepth 100000 in
set_option maxHeartbeats 4000000 in
theorem gcl_any (A : Option Addr) (c n : Nat) (T P D : Nat → Int) (O : Nat → Bool) (t tt : Int) (k gl gt : Nat) (w : World) (hr : RdL w A n T P D O) (hk : k < n) (hL : Blk w gl 22 #[.slice A n c]) (hT : Blk w gt 24 #[.int .i64 t, .int .i64 tt]) :
    Calls Try.prog 21 #[.int .i64 k, .pointer (some ⟨gl, 0, none⟩), .pointer (some ⟨gt, 0, none⟩)] w fun e w' => e = .returned (.bool (decide (t < T k))) ∧ Below w.heap.size w w' := by
  obtain ⟨b, o, rfl, hbl, hcell⟩ := rdL_row hr (by omega)
  obtain ⟨c0, _, _, _⟩ := hcell k hk
  have l0 : w.cell? ⟨gl, 0, none⟩ = some (.slice (some ⟨b, o, none⟩) n c) := hL.cell 0
  have l1 : w.cell? ⟨gt, 0, none⟩ = some (.int .i64 t) := hT.cell 0
  obtain ⟨tk, htk⟩ : ∃ q, T k = q := ⟨_, rfl⟩
  rw [htk] at c0
  rw [htk]
  have EE := Lib.hid (Below.refl w.heap.size w)
  clear hr hL hT hcell htk
  go_enter Try.func21, Try.ntmps21
  go_wp2_with fail
  go_quiet (fail)
  go_wp2_with fail
  try go_ret
  exact ⟨by simp, below_drewN EE.out _⟩
set_option maxRecDepth 100000 in
set_option maxHeartbeats 4000000 in
theorem gsearch_any (A : Option Addr) (c n : Nat) (T P D : Nat → Int) (O : Nat → Bool) (t tt : Int) (gl gt : Nat) (w : World) (hr : RdL w A n T P D O) (hn : n ≤ 60) (hs : Rises T n) (hL : Blk w gl 22 #[.slice A n c]) (hT : Blk w gt 24 #[.int .i64 t, .int .i64 tt]) :
    Calls Try.prog 20 #[.int .i64 n, .func (.func 21) #[] #[.pointer (some ⟨gl, 0, none⟩), .pointer (some ⟨gt, 0, none⟩)]] w fun e w' => e = .returned (.int .i64 (lastL T t n)) ∧ Below w.heap.size w w' := by
  have KC := fun k w hr hk hL hT => gcl_any A c n T P D O t tt k gl gt w hr hk hL hT
  obtain ⟨R, hR⟩ : ∃ R, lastL T t n = R := ⟨_, rfl⟩
  have JQ := Lib.hid (fun r h0 h1 h2 => (lastL_eq (t := t) (r := r) hs h0 h1 h2).symm.trans hR)
  rw [hR]
  have JC := Lib.hid KC; have JR := Lib.hid hr; have HL := Lib.hid hL; have HT := Lib.hid hT
  clear KC hr hL hT hs hR
  go_enter Try.func20, Try.ntmps20
  go_wp2_with fail
  go_loopw [5, 6] (fun i j wr => ∃ a b : Int, i = .int .i64 a ∧ j = .int .i64 b ∧ 0 ≤ a ∧ a ≤ b ∧ b ≤ n ∧ Hid (0 < a → T (a.toNat - 1) ≤ t) ∧ Hid (b < n → t < T b.toNat) ∧ Below w.heap.size w wr) (fun i j _ => (intOf j - intOf i).toNat)
  case atStart => exact ⟨0, n, rfl, rfl, by omega, by omega, by omega, Lib.hid fun h => absurd h (by omega), Lib.hid fun h => absurd h (by omega), Below.refl _ _⟩
  case round =>
    obtain ⟨a, b, rfl, rfl, a0, ab, bN, hlo, hhi, hb⟩ := hrel
    have EE := Lib.hid hb
    clear hb
    by_cases h : a < b
    · obtain ⟨k, hm⟩ : ∃ m : Nat, (a + b) / 2 = m := ⟨((a + b) / 2).toNat, by omega⟩
      have m1 : (k : Int) < b := by omega
      have m2 : a ≤ (k : Int) := by omega
      have hw : IntKind.i64.wrap (a + b) = a + b := IntWalk.i64_in _ (by omega)
      have hw2 : IntKind.u64.wrap (a + b) = a + b := by unfold IntKind.wrap; simp [IntKind.signed, IntKind.bits]; omega
      have hw3 : IntKind.i64.wrap (k : Int) = k := IntWalk.i64_in _ (by omega)
      have hw4 : IntKind.u64.wrap (k : Int) = k := by unfold IntKind.wrap; simp [IntKind.signed, IntKind.bits]; omega
      have hw5 : IntKind.i64.wrap ((a + b) / 2) = k := by rw [hm]; exact hw3
      have hw6 : IntKind.i64.wrap ((k : Int) + 1) = k + 1 := IntWalk.i64_in _ (by omega)
      go_wp2_with fail
      refine (JC.out k _ (JR.out.kept EE.out) (by omega) (HL.out.next EE.out) (HT.out.next EE.out)).mono ?_
      rintro e w1 ⟨rfl, hb⟩
      have E1 := Lib.hid (EE.out.trans (hb.mono EE.out.size))
      clear hb hw hw2 hw3 hw4 hw5 hm
      by_cases c1 : t < T k
      · have HI2 : Hid ((k : Int) < n → t < T (k : Int).toNat) := Lib.hid fun _ => by simpa using c1
        have hd : decide (t < T k) = true := decide_eq_true c1
        rw [hd]
        clear c1 hd
        go_wp2_with fail
        go_roundw
        case rel => exact ⟨a, k, rfl, rfl, a0, m2, by omega, hlo, HI2, E1.out⟩
        case measure => simp [intOf]; omega
      · have LO2 : Hid (0 < (k : Int) + 1 → T (((k : Int) + 1).toNat - 1) ≤ t) := Lib.hid fun _ => by
          have e : ((k : Int) + 1).toNat - 1 = k := by omega
          rw [e]; omega
        have hd : decide (t < T k) = false := decide_eq_false c1
        rw [hd]
        clear c1 hd
        go_wp2_with fail
        go_roundw
        case rel => exact ⟨k + 1, b, rfl, rfl, by omega, by omega, bN, LO2, hhi, E1.out⟩
        case measure => simp [intOf]; omega
    · obtain rfl : a = b := by omega
      obtain ⟨k, rfl⟩ : ∃ k : Nat, a = k := ⟨a.toNat, by omega⟩
      obtain rfl : R = k := (JQ.out k (by omega) (fun h => by have := hlo.out (by omega); simpa using this) (fun h => by have := hhi.out (by omega); simpa using this)).symm
      go_wp2_with fail
      go_ret
      exact ⟨rfl, EE.out⟩
end Go.Proofs.Ytodfjghgcphhhaa
