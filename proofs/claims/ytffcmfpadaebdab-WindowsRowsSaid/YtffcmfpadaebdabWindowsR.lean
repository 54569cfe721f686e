/- For WindowsRows: slices.Equal at rows, windows.All's errors, the law's within. -/
import Derived.Test.YtffcmfpadaebdabRows
import Derived.Test.YtffcmfpadaebdabRowKit
import Derived.Test.YtffcmfpadaebdabRowS
import Derived.Test.YtffcmfpadaebdabRowZ
import Derived.Test.YtffcmfpadaebdabSlicesEq
import Derived.Test.YtffcmfpadaebdabRowL
import Derived.Test.YtffcmfpadaebdabRowM
import Derived.Test.YtffcmfpadaebdabBlocks
import Derived.Test.YtffcmfpadaebdabWinMath
import Derived.Test.YtffcmfpadaebdabSlicesEqM
import Derived.Test.YtffcmfpadaebdabMakeI
import Derived.Test.YtffcmfpadaebdabPulseMath
import Derived.Test.YtffcmfpadaebdabPulseA
import Derived.Test.YtffcmfpadaebdabWindowsA
import Derived.Test.YtffcmfpadaebdabWindowsB
import Derived.Test.YtffcmfpadaebdabWindowsD
import Derived.WalkKit
import Derived.IntWalk
import Derived.Lib.Hide
import Derived.Lib.SmallJoins
import Derived.WalkSpells
import Derived.WalkLawsBesides
import Derived.Laws.CopyOwn
import Derived.Laws.MakeOwn
import Derived.Laws.OwnMore
import Derived.OwnWalk
import Derived.Deep.QuietTactic
import Derived.Deep.RegionHeld3
import Derived.Deep.LoopGhost
import Derived.BigQuiet
import Derived.BigRegion
namespace Go.Proofs.Ytffcmfpadaebdab
open Go.RowKit
set_option linter.unusedSimpArgs false
set_option linter.unusedVariables false
set_option maxRecDepth 100000 in
set_option maxHeartbeats 2000000 in
theorem equal_row (A B : Option Addr) (c d n : Nat) (z : Nat → Nat → Int) (w : World) (ha : RdZ w 7 A n z) (hb : RdZ w 7 B n z) (hl : n ≤ 100000) :
    Calls Try.prog 9 #[.slice A n c, .slice B n d] w fun e w' => e = .returned (.bool true) ∧ ∃ k, w' = w.drewN k := by
  by_cases hn : n = 0
  · subst hn
    clear ha hb
    go_enter Try.func9, Try.ntmps9
    go_wp2_with fail
    go_loop [13] (fun i => i = .int .i64 0) (fun i => 0)
    case atStart => exact rfl
    case round =>
      obtain rfl := hrel
      go_wp2_with fail
      go_ret
      exact ⟨rfl, 0, rfl⟩
  · obtain ⟨b1, o1, rfl, _, h1⟩ := rdZ_row ha (by omega) (by omega)
    obtain ⟨b2, o2, rfl, _, h2⟩ := rdZ_row hb (by omega) (by omega)
    have H1 := Lib.hid h1
    have H2 := Lib.hid h2
    clear ha hb h1 h2
    go_enter Try.func9, Try.ntmps9
    go_wp2_with fail
    go_loopw [13] (fun i wr => ∃ k : Nat, k ≤ n ∧ i = .int .i64 k ∧ ∃ q, wr = w.drewN q) (fun i _ => n - (intOf i).toNat)
    case atStart => exact ⟨0, by omega, rfl, 0, rfl⟩
    case round =>
      obtain ⟨k, hk, rfl, q, rfl⟩ := hrel
      by_cases h : k < n
      · skip
        have a0 : w.cell? ⟨b1, o1 + k * 7, none⟩ = _ := H1.out k 0 h (by omega)
        have a1 := H1.out k 1 h (by omega)
        have a2 := H1.out k 2 h (by omega)
        have a3 := H1.out k 3 h (by omega)
        have a4 := H1.out k 4 h (by omega)
        have a5 := H1.out k 5 h (by omega)
        have a6 := H1.out k 6 h (by omega)
        have e0 : w.cell? ⟨b2, o2 + k * 7, none⟩ = _ := H2.out k 0 h (by omega)
        have e1 := H2.out k 1 h (by omega)
        have e2 := H2.out k 2 h (by omega)
        have e3 := H2.out k 3 h (by omega)
        have e4 := H2.out k 4 h (by omega)
        have e5 := H2.out k 5 h (by omega)
        have e6 := H2.out k 6 h (by omega)
        obtain ⟨x0, hx0⟩ : ∃ x, z k 0 = x := ⟨_, rfl⟩
        rw [hx0] at a0 e0
        obtain ⟨x1, hx1⟩ : ∃ x, z k 1 = x := ⟨_, rfl⟩
        rw [hx1] at a1 e1
        obtain ⟨x2, hx2⟩ : ∃ x, z k 2 = x := ⟨_, rfl⟩
        rw [hx2] at a2 e2
        obtain ⟨x3, hx3⟩ : ∃ x, z k 3 = x := ⟨_, rfl⟩
        rw [hx3] at a3 e3
        obtain ⟨x4, hx4⟩ : ∃ x, z k 4 = x := ⟨_, rfl⟩
        rw [hx4] at a4 e4
        obtain ⟨x5, hx5⟩ : ∃ x, z k 5 = x := ⟨_, rfl⟩
        rw [hx5] at a5 e5
        obtain ⟨x6, hx6⟩ : ∃ x, z k 6 = x := ⟨_, rfl⟩
        rw [hx6] at a6 e6
        clear hx0 hx1 hx2 hx3 hx4 hx5 hx6
        go_wp2_with fail
        go_quiet (fail)
        go_wp2_with fail
        go_roundw
        case rel => exact ⟨k + 1, by omega, by go_num, _, rfl⟩
        case measure => simp [intOf]; omega
      · go_wp2_with fail
        go_ret
        exact ⟨rfl, _, rfl⟩
set_option maxRecDepth 100000 in
set_option maxHeartbeats 1000000 in
theorem all_bad (A : Option Addr) (c n : Nat) (W H : Int) (w : World) (hb : W < 1 ∨ H < 0) :
    Calls Try.prog 7 #[.slice A n c, .int .i64 W, .int .i64 H] w fun e w' => e = .returned (.tuple #[.slice none 0 0, .int .i64 22]) ∧ w = w' := by
  have PC := Lib.hid (pcount_bad none 0 0 W H w hb)
  go_enter Try.func7, Try.ntmps7
  go_wp2_with fail
  refine PC.out.mono ?_
  rintro e V ⟨rfl, rfl⟩
  go_wp2_with fail
  go_ret2
  exact ⟨rfl, rfl⟩
set_option maxRecDepth 100000 in
set_option maxHeartbeats 1000000 in
theorem all_size (A : Option Addr) (c n : Nat) (W H : Int) (w : World) (hd : 1 ≤ W) (hh : 0 ≤ H) (hh' : H ≤ 9223372036854775807) (hb : 65536 < manyP W H) :
    Calls Try.prog 7 #[.slice A n c, .int .i64 W, .int .i64 H] w fun e w' => e = .returned (.tuple #[.slice none 0 0, .int .i64 21]) ∧ w = w' := by
  have PC := Lib.hid (pcount_size none 0 0 W H w hd hh hh' hb)
  go_enter Try.func7, Try.ntmps7
  go_wp2_with fail
  refine PC.out.mono ?_
  rintro e V ⟨rfl, rfl⟩
  go_wp2_with fail
  go_ret2
  exact ⟨rfl, rfl⟩
/-- how many of the first ticks a span has -/
def inS (p q : Int) (a : List Int) : Nat → Nat
  | 0 => 0
  | k + 1 => inS p q a k + if p ≤ zat a k ∧ zat a k < q then 1 else 0
theorem inS_le (p q : Int) (a : List Int) : ∀ k, inS p q a k ≤ k
  | 0 => Nat.le_refl 0
  | k + 1 => by
    have := inS_le p q a k
    show inS p q a k + _ ≤ k + 1
    split <;> omega
theorem inS_succ (p q : Int) (a : List Int) (k : Nat) : inS p q a (k + 1) = inS p q a k + if p ≤ zat a k ∧ zat a k < q then 1 else 0 := rfl
set_option maxRecDepth 100000 in
set_option maxHeartbeats 1000000 in
theorem lwithin (A : Option Addr) (c n : Nat) (a : List Int) (p q : Int) (w : World) (hr : RdI w .i64 A a) (hl : a.length = n) (hn : n ≤ 1000) :
    Calls Try.prog 12 #[.slice A n c, .agg #[.int .i64 p, .int .i64 q]] w fun e w' => e = .returned (.int .i64 (inS p q a n : Nat)) ∧ Below w.heap.size w w' := by
  have HR := Lib.hid hr
  have HB0 := Lib.hid ((Below.refl w.heap.size w).alloc (Nat.le_refl _) (.cells #[.int .i64 p, .int .i64 q] 24))
  have BS := Lib.hid (Blk.new w #[.int .i64 p, .int .i64 q] 24)
  clear hr
  go_enter Try.func12, Try.ntmps12
  go_wp2_with fail
  go_loopg [5, 6] n (fun gh v i wr => ∃ k : Nat, k ≤ n ∧ gh = n - k ∧ i = .int .i64 k ∧ v = .int .i64 (inS p q a k : Nat) ∧ Hid (Blk wr w.heap.size 24 #[.int .i64 p, .int .i64 q]) ∧ Hid (Below w.heap.size w wr))
  case atStart => exact ⟨0, by omega, rfl, rfl, rfl, BS, HB0⟩
  case round =>
    clear BS HB0
    obtain ⟨k, hk, rfl, rfl, rfl, BS, HB⟩ := hrel
    by_cases h : k < n
    · obtain ⟨b, off, rfl, hlt, hc⟩ := rdI_row (HR.out.kept HB.out) (by omega)
      have c0 := hc k (by omega)
      have s0 := BS.out.cell 0
      have s1 := BS.out.cell 1
      have le := inS_le p q a k
      have IS := Lib.hid (inS_succ p q a k)
      obtain ⟨m, hm⟩ : ∃ m, inS p q a k = m := ⟨_, rfl⟩
      obtain ⟨x, hx⟩ : ∃ x, zat a k = x := ⟨_, rfl⟩
      rw [hm] at le IS ⊢
      rw [hx] at c0 IS
      clear hc hm hx
      have D2 := fun t => below_drewN (Below.refl wr.heap.size wr) t
      have B2 := Lib.hid (fun t => HB.out.trans ((D2 t).mono HB.out.size))
      have S2 := Lib.hid (fun t => BS.out.next (D2 t))
      clear D2
      by_cases h1 : p ≤ x
      · by_cases h2 : x < q
        · have E : Hid (inS p q a (k + 1) = m + 1) := Lib.hid (by rw [IS.out, if_pos ⟨h1, h2⟩])
          clear IS
          go_wp2_with fail
          go_quiet (fail)
          go_wp2_with fail
          go_roundg (n - (k + 1))
          case measure => omega
          case rel => exact ⟨k + 1, by omega, rfl, by go_num, by rw [E.out]; go_num, Lib.hid (S2.out _), Lib.hid (B2.out _)⟩
        · have E : Hid (inS p q a (k + 1) = m) := Lib.hid (by rw [IS.out, if_neg (by omega)]; rfl)
          clear IS
          go_wp2_with fail
          go_quiet (fail)
          go_wp2_with fail
          go_roundg (n - (k + 1))
          case measure => omega
          case rel => exact ⟨k + 1, by omega, rfl, by go_num, by rw [E.out], Lib.hid (S2.out _), Lib.hid (B2.out _)⟩
      · have E : Hid (inS p q a (k + 1) = m) := Lib.hid (by rw [IS.out, if_neg (by omega)]; rfl)
        have d := decide_eq_false h1
        clear IS h1
        go_wp2_with fail
        go_quiet (fail)
        go_wp2_with fail
        go_roundg (n - (k + 1))
        case measure => omega
        case rel => exact ⟨k + 1, by omega, rfl, by go_num, by rw [E.out], Lib.hid (S2.out _), Lib.hid (B2.out _)⟩
    · obtain rfl : k = n := by omega
      go_wp2_with fail
      go_ret
      exact ⟨rfl, HB.out⟩
end Go.Proofs.Ytffcmfpadaebdab
