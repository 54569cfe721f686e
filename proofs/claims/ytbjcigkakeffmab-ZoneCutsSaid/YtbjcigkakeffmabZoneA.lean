/- Zones: what floors weigh, which zone has a floor; zones cut. -/
import Derived.Test.YtbjcigkakeffmabRows
import Derived.Test.YtbjcigkakeffmabRowKit
import Derived.Test.YtbjcigkakeffmabRowS
import Derived.Test.YtbjcigkakeffmabRowZ
import Derived.Test.YtbjcigkakeffmabSlicesEq
import Derived.Test.YtbjcigkakeffmabSlicesEqM
import Derived.Test.YtbjcigkakeffmabRowL
import Derived.Test.YtbjcigkakeffmabRowM
import Derived.Test.YtbjcigkakeffmabMakeI
import Derived.Test.YtbjcigkakeffmabBlocks
import Derived.Test.YtbjcigkakeffmabZoneMath
import Derived.Test.YtbjcigkakeffmabShelf
import Derived.WalkKit
import Derived.IntWalk
import Derived.Lib.Hide
import Derived.WalkSpells
import Derived.WalkLawsBesides
import Derived.Laws.CopyOwn
import Derived.Laws.MakeOwn
import Derived.Laws.OwnMore
import Derived.OwnWalk
import Derived.Deep.QuietTactic
import Derived.BigQuiet
import Derived.Deep.RegionHeld3
import Derived.Deep.LoopGhost
import Derived.BigRegion
import Derived.Deep.AppendLies
import Derived.Maps.AppendAt
import Derived.Below
namespace Go.Proofs.Ytbjcigkakeffmab
open Go.RowKit
set_option linter.unusedSimpArgs false
set_option linter.unusedVariables false
theorem Blk.drew {w : World} {g : Nat} {T : TypeId} {cs : Array Value} (h : Blk w g T cs) : Blk w.drew g T cs := h
theorem nretZ {k : IntKind} {a b : Int} (h : a = b) : Ending.returned (.int k a) = .returned (.int k b) := by rw [h]
def hasZ (a b f : Int) : Bool := decide (a ≤ f) && decide (f < b)
theorem hasZ_yes {a b f : Int} (h : a ≤ f) (h1 : f < b) : hasZ a b f = true := by unfold hasZ; simp [h, h1]
theorem hasZ_no {a b f : Int} (h : f < a ∨ b ≤ f) : hasZ a b f = false := by
  unfold hasZ
  rcases h with h | h
  · rw [decide_eq_false (show ¬ a ≤ f by omega)]; rfl
  · rw [decide_eq_false (show ¬ f < b by omega)]; simp
set_option maxHeartbeats 1000000 in
theorem zhas_any (a b f : Int) (w : World) : Calls Try.prog 16 #[.agg #[.int .i64 a, .int .i64 b], .int .i64 f] w fun e w' => e = .returned (.bool (hasZ a b f)) ∧ Below w.heap.size w w' := by
  have BW := Lib.hid ((Below.refl w.heap.size w).alloc (Nat.le_refl _) (.cells #[.int .i64 a, .int .i64 b] 31))
  rcases (show f < a ∨ (a ≤ f ∧ f < b) ∨ (a ≤ f ∧ b ≤ f) by omega) with h | ⟨h, h1⟩ | ⟨h, h1⟩
  · rw [hasZ_no (.inl h)]
    have d0 : decide (a ≤ f) = false := decide_eq_false (by omega)
    go_enter Try.func16, Try.ntmps16
    go_wp2_with fail
    go_ret
    exact ⟨rfl, BW.out⟩
  · rw [hasZ_yes h h1]
    have d0 : decide (a ≤ f) = true := decide_eq_true h
    have d1 : decide (f < b) = true := decide_eq_true h1
    go_enter Try.func16, Try.ntmps16
    go_wp2_with fail
    go_ret
    exact ⟨rfl, BW.out⟩
  · rw [hasZ_no (.inr h1)]
    have d0 : decide (a ≤ f) = true := decide_eq_true h
    have d1 : decide (f < b) = false := decide_eq_false (by omega)
    go_enter Try.func16, Try.ntmps16
    go_wp2_with fail
    go_ret
    exact ⟨rfl, BW.out⟩
/-- what floors weigh that a span has, as sums go -/
def wgA (zs : List Int) (a b : Int) : Nat → Int
  | 0 => 0
  | k + 1 => if hasZ a b k then wrap64 (wgA zs a b k + zat zs k) else wgA zs a b k
theorem wg_yes {zs : List Int} {a b : Int} {k : Nat} (h : hasZ a b k = true) : wgA zs a b (k + 1) = wrap64 (wgA zs a b k + zat zs k) := by show (if _ then _ else _) = _; rw [if_pos h]
theorem wg_no {zs : List Int} {a b : Int} {k : Nat} (h : hasZ a b k = false) : wgA zs a b (k + 1) = wgA zs a b k := by show (if _ then _ else _) = _; rw [if_neg (by rw [h]; decide)]
set_option maxRecDepth 100000 in
set_option maxHeartbeats 2000000 in
theorem zweigh_any (A : Option Addr) (c n : Nat) (zs : List Int) (a b : Int) (w : World) (hn : zs.length = n) (hl : n ≤ 9223372036854775807) (hr : RdI w .i64 A zs) :
    Calls Try.prog 8 #[.slice A n c, .agg #[.int .i64 a, .int .i64 b]] w fun e w' => e = .returned (.int .i64 (wgA zs a b n)) ∧ Below w.heap.size w w' := by
  have HN := Lib.hid hn
  have HR := Lib.hid hr
  clear hn hr
  go_enter Try.func8, Try.ntmps8
  go_wp2_with fail
  have BZ := Blk.new w #[.int .i64 a, .int .i64 b] 31
  have BE : Below w.heap.size w (w.alloc (.cells #[.int .i64 a, .int .i64 b] 31)) := (Below.refl w.heap.size w).alloc (Nat.le_refl _) _
  obtain ⟨V0, hV0⟩ : ∃ V, (w.alloc (.cells #[.int .i64 a, .int .i64 b] 31)) = V := ⟨_, rfl⟩
  rw [hV0] at BZ BE ⊢
  have HZ := Lib.hid BZ
  have EE := Lib.hid BE
  clear hV0 BE BZ
  have kZ0 : V0.cell? ⟨w.heap.size, 0, none⟩ = some (.int .i64 a) := HZ.out.cell 0
  have kZ1 : V0.cell? ⟨w.heap.size, 1, none⟩ = some (.int .i64 b) := HZ.out.cell 1
  go_wp2_with fail
  clear kZ0 kZ1
  go_loopw [5, 10] (fun sm i wr => ∃ k : Nat, k ≤ n ∧ i = .int .i64 k ∧ sm = .int .i64 (wgA zs a b k) ∧ Below w.heap.size w wr ∧ Blk wr w.heap.size 31 #[.int .i64 a, .int .i64 b]) (fun _ i _ => n - (intOf i).toNat)
  case atStart => exact ⟨0, by omega, rfl, rfl, EE.out, HZ.out⟩
  case round =>
    clear EE HZ
    obtain ⟨k, hk, rfl, rfl, hE0, hZ0⟩ := hrel
    have EE := Lib.hid hE0; have HZ := Lib.hid hZ0
    clear hE0 hZ0
    by_cases h : k < n
    · obtain ⟨bb, off, rfl, hlt, hc⟩ := rdI_row (HR.out.kept EE.out) (by have := HN.out; omega)
      have ck := hc k (by have := HN.out; omega)
      obtain ⟨zv, hzv⟩ : ∃ z, zat zs k = z := ⟨_, rfl⟩
      have HZV := Lib.hid hzv
      rw [hzv] at ck
      obtain ⟨S, hS⟩ : ∃ z, wgA zs a b k = z := ⟨_, rfl⟩
      have HSV := Lib.hid hS
      rw [hS]
      have kI : (k : Int) < (n : Int) := by omega
      have k0 : (0 : Int) ≤ (k : Int) := by omega
      have WY : hasZ a b k = true → Hid (wgA zs a b (k + 1) = wrap64 (S + zv)) := fun h => Lib.hid (by rw [wg_yes h, HSV.out, HZV.out])
      have WN : hasZ a b k = false → Hid (wgA zs a b (k + 1) = S) := fun h => Lib.hid (by rw [wg_no h, HSV.out])
      have JH := Lib.hid (fun w => zhas_any a b k w)
      clear hc hzv hS
      have kZ0 : wr.cell? ⟨w.heap.size, 0, none⟩ = some (.int .i64 a) := HZ.out.cell 0
      have kZ1 : wr.cell? ⟨w.heap.size, 1, none⟩ = some (.int .i64 b) := HZ.out.cell 1
      go_wp2_with fail
      refine (JH.out _).mono ?_
      rintro e v1 ⟨rfl, hb⟩
      clear kZ0 kZ1
      have HZ := Lib.hid (Blk.next (w := wr) HZ.out hb)
      have EE := Lib.hid (EE.out.trans (hb.mono EE.out.size))
      clear hb
      have kZ0 : v1.cell? ⟨w.heap.size, 0, none⟩ = some (.int .i64 a) := HZ.out.cell 0
      have kZ1 : v1.cell? ⟨w.heap.size, 1, none⟩ = some (.int .i64 b) := HZ.out.cell 1
      obtain ⟨hbv, hhbv⟩ : ∃ v, hasZ a b k = v := ⟨_, rfl⟩
      simp only [hhbv] at WY WN ⊢
      have hb2 := hhbv
      clear hhbv
      cases hbv
      · clear hb2
        have U := WN rfl
        clear WY WN
        go_wp2_with fail
        go_roundw
        case rel => exact ⟨k + 1, by omega, by go_num, by rw [U.out], EE.out, HZ.out⟩
        case measure => simp [intOf]; omega
      · clear hb2
        have U := WY rfl
        clear WY WN
        go_wp2_with fail
        go_roundw
        case rel => exact ⟨k + 1, by omega, by go_num, by rw [U.out], EE.out, HZ.out⟩
        case measure => simp [intOf]; omega
    · obtain rfl : k = n := by omega
      have h' : ¬ ((k : Int) < k) := by omega
      go_wp2_with fail
      go_ret
      exact ⟨rfl, EE.out⟩
/-- the first zone that has a floor, as the law looks for it -/
def fsA (z : Nat → Nat → Int) (f : Int) : Nat → Int
  | 0 => -1
  | k + 1 => if fsA z f k < 0 ∧ hasZ (z k 0) (z k 1) f = true then (k : Int) else fsA z f k
theorem fs_none {z : Nat → Nat → Int} {f : Int} : ∀ k, (∀ i, i < k → hasZ (z i 0) (z i 1) f = false) → fsA z f k = -1
  | 0, _ => rfl
  | k + 1, h => by
    show (if _ then _ else _) = _
    rw [if_neg (by rw [h k (by omega)]; simp)]
    exact fs_none k fun i hi => h i (by omega)
theorem fs_stay {z : Nat → Nat → Int} {f : Int} {k : Nat} (h : fsA z f k = (k - 1 : Nat)) (hk : 0 < k) : ∀ m, k ≤ m → fsA z f m = (k - 1 : Nat)
  | 0, hm => by omega
  | m + 1, hm => by
    by_cases e : m + 1 = k
    · rw [e]; exact h
    · have := fs_stay h hk m (by omega)
      show (if _ then _ else _) = _
      rw [this, if_neg (by omega)]
theorem fs_at {z : Nat → Nat → Int} {f : Int} {k n : Nat} (h : ∀ i, i < k → hasZ (z i 0) (z i 1) f = false) (h1 : hasZ (z k 0) (z k 1) f = true) (hn : k < n) : fsA z f n = k := by
  have : fsA z f (k + 1) = (k + 1 - 1 : Nat) := by
    show (if _ then _ else _) = _
    rw [fs_none k h, if_pos ⟨by omega, h1⟩]; rfl
  exact fs_stay this (by omega) n (by omega)
set_option maxHeartbeats 1000000 in
theorem zof1_any (a b f : Int) (g : Nat) (w : World) (hB : Blk w g 3 #[.int .i64 f]) : Calls Try.prog 18 #[.agg #[.int .i64 a, .int .i64 b], .pointer (some ⟨g, 0, none⟩)] w fun e w' => e = .returned (.bool (hasZ a b f)) ∧ Below w.heap.size w w' := by
  have BW := Lib.hid ((Below.refl w.heap.size w).alloc (Nat.le_refl _) (.cells #[.int .i64 a, .int .i64 b] 31))
  have JH := Lib.hid (fun w => zhas_any a b f w)
  have hB2 := (hB.alloc (.cells #[.int .i64 a, .int .i64 b] 31)).cell 0
  have hB0 := hB.cell 0
  have hl := hB.lt
  clear hB
  go_enter Try.func18, Try.ntmps18
  go_wp2_with fail
  refine (JH.out _).mono ?_
  rintro e w1 ⟨rfl, hb⟩
  go_wp2_with fail
  go_ret
  exact ⟨rfl, BW.out.trans (hb.mono BW.out.size)⟩
set_option maxRecDepth 100000 in
set_option maxHeartbeats 2000000 in
theorem zidx_any (A : Option Addr) (c n : Nat) (z : Nat → Nat → Int) (f : Int) (g : Nat) (w : World) (hl : n ≤ 9223372036854775807) (hr : RdZ w 2 A n z) (hB : Blk w g 3 #[.int .i64 f]) :
    Calls Try.prog 17 #[.slice A n c, .func (.func 18) #[] #[.pointer (some ⟨g, 0, none⟩)]] w fun e w' => e = .returned (.int .i64 (fsA z f n)) ∧ Below w.heap.size w w' := by
  have HR := Lib.hid hr
  have HG := Lib.hid hB
  clear hr hB
  go_enter Try.func17, Try.ntmps17
  go_wp2_with fail
  go_loopw [8] (fun i wr => ∃ j : Nat, j ≤ n ∧ i = .int .i64 j ∧ Below w.heap.size w wr ∧ Hid (∀ i, i < j → hasZ (z i 0) (z i 1) f = false)) (fun i _ => n - (intOf i).toNat)
  case atStart => exact ⟨0, by omega, rfl, Below.refl _ _, Lib.hid fun i hi => absurd hi (by omega)⟩
  case round =>
    obtain ⟨j, hj, rfl, hb, hN⟩ := hrel
    have EE := Lib.hid hb
    clear hb
    by_cases h : j < n
    · obtain ⟨b, off, rfl, hlt, hcl⟩ := rdZ_row (HR.out.kept EE.out) (by omega) (by omega)
      have c0 := hcl j 0 h (by omega)
      have c1 := hcl j 1 h (by omega)
      obtain ⟨p, hp⟩ : ∃ p, z j 0 = p := ⟨_, rfl⟩
      obtain ⟨q, hq⟩ : ∃ p, z j 1 = p := ⟨_, rfl⟩
      rw [hp] at c0
      rw [hq] at c1
      have kI : (j : Int) < (n : Int) := by omega
      have k0 : (0 : Int) ≤ (j : Int) := by omega
      have JO := Lib.hid (fun w hB => zof1_any p q f g w hB)
      have HP := Lib.hid hp; have HQ := Lib.hid hq
      clear hcl hp hq
      try simp only [Nat.add_zero] at c0
      go_wp2_with fail
      refine (JO.out _ (HG.out.next EE.out)).mono ?_
      rintro e w1 ⟨rfl, hb⟩
      have E1 := Lib.hid (EE.out.trans (hb.mono EE.out.size))
      obtain ⟨hv, hhv⟩ : ∃ v, hasZ p q f = v := ⟨_, rfl⟩
      have HV := Lib.hid hhv
      rw [hhv]
      clear hb hhv
      cases hv
      · have NN : Hid (∀ i, i < j + 1 → hasZ (z i 0) (z i 1) f = false) := Lib.hid fun i hi => by
          by_cases e : i = j
          · rw [e, HP.out, HQ.out]; exact HV.out
          · exact hN.out i (by omega)
        go_wp2_with fail
        go_roundw
        case rel => exact ⟨j + 1, by omega, by go_num, E1.out, NN⟩
        case measure => simp [intOf]; omega
      · have FS := fs_at (n := n) hN.out (by rw [HP.out, HQ.out]; exact HV.out) h
        have HFS := Lib.hid FS
        clear FS
        go_wp2_with fail
        go_ret
        exact ⟨by rw [HFS.out]; rfl, E1.out⟩
    · obtain rfl : j = n := by omega
      have h' : ¬ ((j : Int) < j) := by omega
      have FS := Lib.hid (fs_none j hN.out)
      go_wp2_with fail
      go_ret
      exact ⟨by rw [FS.out]; rfl, EE.out⟩
set_option maxHeartbeats 1000000 in
theorem zof_any (A : Option Addr) (c n : Nat) (z : Nat → Nat → Int) (f : Int) (w : World) (hl : n ≤ 9223372036854775807) (hr : RdZ w 2 A n z) :
    Calls Try.prog 9 #[.slice A n c, .int .i64 f] w fun e w' => e = .returned (.int .i64 (fsA z f n)) ∧ Below w.heap.size w w' := by
  have BW := Lib.hid ((Below.refl w.heap.size w).alloc (Nat.le_refl _) (.cells #[.int .i64 f] 3))
  have JI := Lib.hid (zidx_any A c n z f w.heap.size (w.alloc (.cells #[.int .i64 f] 3)) hl (hr.kept BW.out) (Blk.new w _ _))
  clear hr
  go_enter Try.func9, Try.ntmps9
  go_wp2_with fail
  refine JI.out.mono ?_
  rintro e w1 ⟨rfl, hb⟩
  go_wp2_with fail
  go_ret
  exact ⟨rfl, BW.out.trans (hb.mono BW.out.size)⟩
end Go.Proofs.Ytbjcigkakeffmab
