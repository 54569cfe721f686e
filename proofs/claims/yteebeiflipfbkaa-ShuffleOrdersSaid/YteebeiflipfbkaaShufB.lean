/- Contract of shuffle.Order at one word; alive of layer 69. -/
import Derived.Test.YteebeiflipfbkaaRows
import Derived.Test.YteebeiflipfbkaaRowKit
import Derived.Test.YteebeiflipfbkaaSlicesEq
import Derived.Test.YteebeiflipfbkaaSlicesEqM
import Derived.Test.YteebeiflipfbkaaRowL
import Derived.Test.YteebeiflipfbkaaMakeI
import Derived.Test.YteebeiflipfbkaaBlocks
import Derived.Test.YteebeiflipfbkaaWordsA
import Derived.Test.YteebeiflipfbkaaShufMath
import Derived.Test.YteebeiflipfbkaaShufA
import Derived.WalkKit
import Derived.IntWalk
import Derived.Lib.Hide
import Derived.Lib.SmallJoins
import Derived.WalkSpells
import Derived.WalkLawsBesides
import Derived.Laws.CopyOwn
import Derived.Laws.MakeOwn
import Derived.Laws.OwnMore
import Derived.OwnWalk
import Derived.Deep.QuietTactic
import Derived.Deep.RegionHeld3
import Derived.Deep.LoopGhost
import Derived.BigQuiet
import Derived.BigRegion
namespace Go.Proofs.Yteebeiflipfbkaa
open Go.RowKit
set_option linter.unusedSimpArgs false
set_option linter.unusedVariables false
set_option maxRecDepth 100000 in
set_option maxHeartbeats 2000000 in
theorem srow_any (n : Nat) (w : World) (hn : n ≤ 65536) :
    Calls Try.prog 82 #[.int .i64 n] w fun e w' => e = .returned (.slice (some ⟨w.heap.size, 0, none⟩) n n) ∧ w'.ownsRow w.heap.size 3 1 (.slice (some ⟨w.heap.size, 0, none⟩) n n) n ((rowL (fun i => (i : Int)) n).map (Value.int .i64)) ∧ Below w.heap.size w w' := by
  obtain ⟨i0, hi, hz0, hz1, hz2⟩ := info_parts mkInfo
  have HZ := Lib.hid (mkZeros n)
  go_enter Try.func82, Try.ntmps82
  go_wp2_with (at_make; refine wpList_make_full _ rfl _ _ 23 rfl w.heap.size 3 i0 (.int .i64 0) 1 Try.underlying23 hi hz0 hz1 _ _ _ _ n rfl rfl (by omega) (by omega) (by rw [hz2]; omega) (by unfold maxLen; omega) (Nat.le_refl _) ?_; intro w0 hown0 hgrow0)
  rw [HZ.out, ← mixL_zero (fun i => (i : Int)) (fun _ => 0) n] at hown0
  have hb0 : Below w.heap.size w w0 := (Below.refl _ _).grown hgrow0 (Nat.le_refl _) (fun k h => by cases h)
  have HO := Lib.hid hown0
  have HB := Lib.hid hb0
  clear hgrow0 hown0 hb0
  go_wp2_with fail
  go_loopg [9] n (fun g i wr => ∃ k : Nat, k ≤ n ∧ g = n - k ∧ i = .int .i64 k ∧ wr.ownsRow w.heap.size 3 1 (.slice (some ⟨w.heap.size, 0, none⟩) n n) n ((mixL (fun i => (i : Int)) (fun _ => 0) k n).map (Value.int .i64)) ∧ Below w.heap.size w wr)
  case atStart => exact ⟨0, by omega, rfl, rfl, HO.out, HB.out⟩
  case round =>
    obtain ⟨k, hk, rfl, rfl, hown, hb⟩ := hrel
    by_cases h : k < n
    · have c1 := ownR_cellM hown h (Nat.le_refl k)
      have f1 := hown.frozenAt k
      have S := Lib.hid (ownR_put hown (u := (k : Int)) rfl)
      have HBk := Lib.hid hb
      clear hown hb
      go_wp2_with fail
      go_roundg (n - (k + 1))
      case measure => omega
      case rel => exact ⟨k + 1, by omega, rfl, by go_num, S.out, HBk.out.setCell (Nat.le_refl _) _⟩
    · obtain rfl : k = n := by omega
      rw [mixL_full] at hown
      go_wp2_with fail
      go_ret
      exact ⟨rfl, hown, hb⟩
theorem far2 {w : World} {p q r : Addr} {u v x : Value} (h : w.cell? r = some x) (hp : r.block ≠ p.block) (hq : r.block ≠ q.block) : ((w.setCell p u).setCell q v).cell? r = some x := by
  rw [World.cell?_of_block (Below.heap_setCell _ q v r.block hq), World.cell?_of_block (Below.heap_setCell _ p u r.block hp)]; exact h
theorem below7 (b : Nat) (W : World) (h : W.cell? ⟨b, 0, none⟩ = some (.int .u32 7)) :
    Calls Try.prog 83 #[.agg #[.slice (some ⟨b, 0, none⟩) 1 1, .int .i64 0], .int .u32 2] W fun e w' => e = .returned (.tuple #[.int .u32 0, .agg #[.slice (some ⟨b, 0, none⟩) 1 1, .int .i64 1], .int .i64 0]) ∧ Below W.heap.size W w' :=
  below_some b 0 1 1 0 7 2 W (by omega) (by omega) h (by omega) (by omega) (by omega) (by omega)
theorem third_blk {w w1 : World} {o1 o2 : Obj} {cs : Array Value} {T : TypeId} (hb : Below (((w.alloc o1).alloc o2).alloc (.cells cs T)).drew.heap.size (((w.alloc o1).alloc o2).alloc (.cells cs T)).drew w1) : Blk w1 (w.heap.size + 1 + 1) T cs := by
  have h := Blk.new ((w.alloc o1).alloc o2) cs T
  rw [World.size_alloc, World.size_alloc] at h
  exact Blk.next (w := (((w.alloc o1).alloc o2).alloc (.cells cs T)).drew) h hb
theorem own_blk {w : World} {base : Nat} {e : TypeId} {g n : Nat} {xs : List Value} (h : w.ownsRow base e 1 (.slice (some ⟨g, 0, none⟩) n n) n xs) : Blk w g e xs.toArray := by
  rcases h.2 with ⟨c, _⟩ | ⟨g', cap, cur, hv, _, hh, _, _, hcs, htake⟩
  · cases c
  · cases hv
    rw [Nat.mul_one] at hcs htake
    have : cur = xs.toArray := by
      apply Array.ext'
      rw [← htake, List.take_of_length_le (by simp [hcs])]
    rw [← this]; exact hh
/-- what stands in memory: the order, the stream, the result's stream -/
structure OS (w X : World) (b g l : Nat) (a0 a1 k : Int) : Prop where
  o : Blk X g 3 #[.int .i64 a0, .int .i64 a1]
  s : Blk X l 64 #[.slice (some ⟨b, 0, none⟩) 1 1, .int .i64 k]
  r : Blk X (w.heap.size + 1) 64 #[.slice none 0 0, .int .i64 0]
  e : Below w.heap.size w X
theorem Blk.dr {w : World} {g : Nat} {t : TypeId} {cs : Array Value} (h : Blk w g t cs) : Blk w.drew g t cs := h
theorem Blk.pair {w : World} {g : Nat} {t : TypeId} {a b : Value} (h : Blk w g t #[a, b]) : w.cell? ⟨g, 0, none⟩ = some a ∧ w.cell? ⟨g, 1, none⟩ = some b ∧ w.frozen? ⟨g, 0, none⟩ = false ∧ w.frozen? ⟨g, 1, none⟩ = false := ⟨h.cell 0, h.cell 1, h.frozen 0, h.frozen 1⟩
theorem blk_last {w w' : World} {cs : Array Value} {T : TypeId} (hb : Below (w.alloc (.cells cs T)).drew.heap.size (w.alloc (.cells cs T)).drew w') : Blk w' w.heap.size T cs := Blk.next (w := (w.alloc (.cells cs T)).drew) (Blk.new w cs T) hb
theorem os_first {w w1 : World} {b : Nat} {T1 : TypeId} {c1 : Array Value}
    (hown : w1.ownsRow ((w.alloc (.cells c1 T1)).alloc (.cells #[.slice none 0 0, .int .i64 0] 64)).drew.heap.size 3 1 (.slice (some ⟨((w.alloc (.cells c1 T1)).alloc (.cells #[.slice none 0 0, .int .i64 0] 64)).drew.heap.size, 0, none⟩) 2 2) 2 ((rowL (fun i => (i : Int)) 2).map (Value.int .i64)))
    (hb : Below ((w.alloc (.cells c1 T1)).alloc (.cells #[.slice none 0 0, .int .i64 0] 64)).drew.heap.size ((w.alloc (.cells c1 T1)).alloc (.cells #[.slice none 0 0, .int .i64 0] 64)).drew w1) :
    OS w (w1.alloc (.cells #[.slice (some ⟨b, 0, none⟩) 1 1, .int .i64 0] 64)) b (w.heap.size + 1 + 1) w1.heap.size 0 1 0 ∧ w.heap.size + 1 + 1 < w1.heap.size := by
  have hs : ((w.alloc (.cells c1 T1)).alloc (.cells #[.slice none 0 0, .int .i64 0] 64)).drew.heap.size = w.heap.size + 1 + 1 := by
    show ((w.alloc (.cells c1 T1)).alloc (.cells #[.slice none 0 0, .int .i64 0] 64)).heap.size = _
    rw [World.size_alloc, World.size_alloc]
  have hO := own_blk hown
  rw [hs] at hO
  have hR := blk_last hb
  rw [World.size_alloc] at hR
  have hb0 : Below w.heap.size w ((w.alloc (.cells c1 T1)).alloc (.cells #[.slice none 0 0, .int .i64 0] 64)).drew := (((Below.refl _ _).alloc (Nat.le_refl _) _).alloc (by simp) _).drew
  have hbw : Below w.heap.size w w1 := hb0.trans (hb.mono hb0.size)
  exact ⟨⟨hO.alloc _, Blk.new _ _ _, hR.alloc _, hbw.alloc hbw.size _⟩, hO.lt⟩
theorem os_second {w w1 : World} {b : Nat} {T1 : TypeId} {c1 : Array Value}
    (hown : w1.ownsRow (((w.alloc (.cells c1 T1)).alloc (.cells #[.slice none 0 0, .int .i64 0] 64)).alloc (.cells #[.slice none 0 0, .int .i64 0] 64)).drew.heap.size 3 1 (.slice (some ⟨(((w.alloc (.cells c1 T1)).alloc (.cells #[.slice none 0 0, .int .i64 0] 64)).alloc (.cells #[.slice none 0 0, .int .i64 0] 64)).drew.heap.size, 0, none⟩) 2 2) 2 ((rowL (fun i => (i : Int)) 2).map (Value.int .i64)))
    (hb : Below (((w.alloc (.cells c1 T1)).alloc (.cells #[.slice none 0 0, .int .i64 0] 64)).alloc (.cells #[.slice none 0 0, .int .i64 0] 64)).drew.heap.size (((w.alloc (.cells c1 T1)).alloc (.cells #[.slice none 0 0, .int .i64 0] 64)).alloc (.cells #[.slice none 0 0, .int .i64 0] 64)).drew w1) :
    OS w ((w1.setCell ⟨w.heap.size + 1 + 1, 0, none⟩ (.slice (some ⟨b, 0, none⟩) 1 1)).setCell ⟨w.heap.size + 1 + 1, 1, none⟩ (.int .i64 0)) b (w.heap.size + 1 + 1 + 1) (w.heap.size + 1 + 1) 0 1 0 := by
  have hs : (((w.alloc (.cells c1 T1)).alloc (.cells #[.slice none 0 0, .int .i64 0] 64)).alloc (.cells #[.slice none 0 0, .int .i64 0] 64)).drew.heap.size = w.heap.size + 1 + 1 + 1 := by
    show (((w.alloc (.cells c1 T1)).alloc (.cells #[.slice none 0 0, .int .i64 0] 64)).alloc (.cells #[.slice none 0 0, .int .i64 0] 64)).heap.size = _
    rw [World.size_alloc, World.size_alloc, World.size_alloc]
  have hO := own_blk hown
  rw [hs] at hO
  have hL := third_blk hb
  have hR : Blk w1 (w.heap.size + 1) 64 #[.slice none 0 0, .int .i64 0] := by
    have h := Blk.new (w.alloc (.cells c1 T1)) #[(.slice none 0 0 : Value), .int .i64 0] 64
    rw [World.size_alloc] at h
    exact Blk.next (w := (((w.alloc (.cells c1 T1)).alloc (.cells #[.slice none 0 0, .int .i64 0] 64)).alloc (.cells #[.slice none 0 0, .int .i64 0] 64)).drew) (h.alloc _) hb
  have hb0 : Below w.heap.size w (((w.alloc (.cells c1 T1)).alloc (.cells #[.slice none 0 0, .int .i64 0] 64)).alloc (.cells #[.slice none 0 0, .int .i64 0] 64)).drew := ((((Below.refl _ _).alloc (Nat.le_refl _) _).alloc (by simp) _).alloc (by simp; omega) _).drew
  have hbw : Below w.heap.size w w1 := hb0.trans (hb.mono hb0.size)
  refine ⟨(hO.far ?_ _).far ?_ _, hL.put2 _ _, (hR.far ?_ _).far ?_ _, (hbw.setCell ?_ _).setCell ?_ _⟩
  · show w.heap.size + 1 + 1 + 1 ≠ w.heap.size + 1 + 1; omega
  · show w.heap.size + 1 + 1 + 1 ≠ w.heap.size + 1 + 1; omega
  · show w.heap.size + 1 ≠ w.heap.size + 1 + 1; omega
  · show w.heap.size + 1 ≠ w.heap.size + 1 + 1; omega
  · show w.heap.size ≤ w.heap.size + 1 + 1; omega
  · show w.heap.size ≤ w.heap.size + 1 + 1; omega
set_option maxRecDepth 100000 in
set_option maxHeartbeats 8000000 in
theorem order2 (b : Nat) (w : World) (hc : w.cell? ⟨b, 0, none⟩ = some (.int .u32 7)) :
    Calls Try.prog 36 #[.int .i64 2, .agg #[.slice (some ⟨b, 0, none⟩) 1 1, .int .i64 0]] w fun e w' => ∃ A, e = .returned (.tuple #[.slice A 2 2, .agg #[.slice (some ⟨b, 0, none⟩) 1 1, .int .i64 1], .int .i64 0]) ∧ RdI w' .i64 A [1, 0] ∧ Below w.heap.size w w' := by
  have HC := Lib.hid hc
  have HR := Lib.hid (fun W => srow_any 2 W (by omega))
  clear hc
  go_enter Try.func36, Try.ntmps36
  go_wp2_with fail
  go_region_held3 (fun W => W.cell? ⟨w.heap.size, 0, none⟩ = some (.slice (some ⟨b, 0, none⟩) 1 1) ∧ W.cell? ⟨w.heap.size, 1, none⟩ = some (.int .i64 0))
    (first | go_keep | exact ⟨far2 k0 (by show w.heap.size ≠ w.heap.size + 1 + 1; omega) (by show w.heap.size ≠ w.heap.size + 1 + 1; omega), far2 k1 (by show w.heap.size ≠ w.heap.size + 1 + 1; omega) (by show w.heap.size ≠ w.heap.size + 1 + 1; omega)⟩)
    (first
      | (go_at_call 82; refine (HR.out _).mono ?_; rintro e w1 ⟨rfl, hown, hb1⟩; have k0 : w1.cell? ⟨w.heap.size, 0, none⟩ = some (.slice (some ⟨b, 0, none⟩) 1 1) := (hb1.cell (p := ⟨w.heap.size, 0, none⟩) (by simp <;> omega)).trans (by first | assumption | go_simp); have k1 : w1.cell? ⟨w.heap.size, 1, none⟩ = some (.int .i64 0) := (hb1.cell (p := ⟨w.heap.size, 1, none⟩) (by simp <;> omega)).trans (by first | assumption | go_simp); have MB := third_blk hb1; have m0 := MB.cell 0; have m1 := MB.cell 1; have n0 := MB.frozen 0; have n1 := MB.frozen 1; have MBh := Lib.hid MB; clear MB)
      | (go_at_call 82; refine (HR.out _).mono ?_; rintro e w1 ⟨rfl, hown, hb1⟩; have k0 : w1.cell? ⟨w.heap.size, 0, none⟩ = some (.slice (some ⟨b, 0, none⟩) 1 1) := (hb1.cell (p := ⟨w.heap.size, 0, none⟩) (by simp <;> omega)).trans (by first | assumption | go_simp); have k1 : w1.cell? ⟨w.heap.size, 1, none⟩ = some (.int .i64 0) := (hb1.cell (p := ⟨w.heap.size, 1, none⟩) (by simp <;> omega)).trans (by first | assumption | go_simp)))
  all_goals go_wp2_with fail
  · obtain ⟨hX, hgl0⟩ := os_first (b := b) hown hb1
    clear hown hb1 k0 k1
    obtain ⟨g, hg⟩ : ∃ g, w.heap.size + 1 + 1 = g := ⟨_, rfl⟩
    obtain ⟨l, hl⟩ : ∃ l, w1.heap.size = l := ⟨_, rfl⟩
    have hgl : g ≠ l ∧ g ≠ w.heap.size + 1 ∧ l ≠ w.heap.size + 1 := by omega
    obtain ⟨X, hXe⟩ : ∃ X, w1.alloc (.cells #[.slice (some ⟨b, 0, none⟩) 1 1, .int .i64 0] 64) = X := ⟨_, rfl⟩
    rw [hXe] at hX ⊢
    rw [hg, hl] at hX ⊢
    have hgw : w.heap.size ≤ g := by omega
    have hlw : w.heap.size ≤ l := by omega
    clear hgl0
    have hgl' := Lib.hid hgl
    have HX := Lib.hid hX
    clear hX hXe hg hl
    have hbX := HX.out.e.size
    have B2 := Lib.hid (fun W h => below7 b W h)
    go_loopg [9] 1 (fun gh i wr => (gh = 1 ∧ i = .int .i64 1 ∧ wr = X) ∨ (gh = 0 ∧ i = .int .i64 0 ∧ Hid (OS w wr b g l 1 0 1)))
    case atStart => exact .inl ⟨rfl, rfl, rfl⟩
    case round =>
      rcases hrel with ⟨rfl, rfl, rfl⟩ | ⟨rfl, rfl, HY⟩
      · obtain ⟨x0, x1, y0, y1⟩ := HX.out.s.pair
        go_wp2_with fail
        refine (B2.out _ (HX.out.e.cell (p := ⟨b, 0, none⟩) (lt_of_cell HC.out) |>.trans HC.out)).mono ?_
        rintro e w2 ⟨rfl, hb2⟩
        have hsz : g < w2.heap.size := (HX.out.o.next hb2).lt
        have O2 := (HX.out.o.next hb2).alloc (.cells #[.slice (some ⟨b, 0, none⟩) 1 1, .int .i64 1] 64)
        have S2 := (HX.out.s.next hb2).alloc (.cells #[.slice (some ⟨b, 0, none⟩) 1 1, .int .i64 1] 64)
        have R2 := (HX.out.r.next hb2).alloc (.cells #[.slice (some ⟨b, 0, none⟩) 1 1, .int .i64 1] 64)
        have N2 := Blk.new w2 #[(.slice (some ⟨b, 0, none⟩) 1 1 : Value), .int .i64 1] 64
        have hsl : l < w2.heap.size := (HX.out.s.next hb2).lt
        have hsr : w.heap.size + 1 < w2.heap.size := (HX.out.r.next hb2).lt
        have EB : Below w.heap.size w w2 := HX.out.e.trans (hb2.mono hbX)
        have EV := EB.alloc EB.size (.cells #[.slice (some ⟨b, 0, none⟩) 1 1, .int .i64 1] 64)
        obtain ⟨nb, hnb⟩ : ∃ nb, w2.heap.size = nb := ⟨_, rfl⟩
        clear EB x0 x1 y0 y1 hb2
        go_wp2_with fail
        obtain ⟨V, hV⟩ : ∃ V, w2.alloc (.cells #[.slice (some ⟨b, 0, none⟩) 1 1, .int .i64 1] 64) = V := ⟨_, rfl⟩
        rw [hV] at O2 S2 R2 N2 EV ⊢
        rw [hnb] at N2 hsz hsl hsr
        obtain ⟨c0, c1, d0, d1⟩ := O2.pair
        have h01 : (0 : Nat) ≠ 1 := by omega
        have OB := Lib.hid O2
        have SB := Lib.hid S2
        have RB := Lib.hid R2
        have NB := Lib.hid N2
        have EH := Lib.hid EV
        clear O2 S2 R2 N2 EV hV hnb
        go_region
        obtain ⟨Y, hY⟩ : ∃ Y, ((V.setCell ⟨g, 1, none⟩ (.int .i64 0)).setCell ⟨g, 0, none⟩ (.int .i64 1)).drew = Y := ⟨_, rfl⟩
        rw [hY]
        have OY : Blk Y g 3 #[.int .i64 1, .int .i64 0] := by rw [← hY]; exact Blk.dr ((OB.out.set 1 _).set 0 _)
        have SY : Blk Y l 64 #[.slice (some ⟨b, 0, none⟩) 1 1, .int .i64 0] := by rw [← hY]; exact Blk.dr ((SB.out.far (fun c => hgl'.out.1 c.symm) _).far (fun c => hgl'.out.1 c.symm) _)
        have RY : Blk Y (w.heap.size + 1) 64 #[.slice none 0 0, .int .i64 0] := by rw [← hY]; exact Blk.dr ((RB.out.far (fun c => hgl'.out.2.1 c.symm) _).far (fun c => hgl'.out.2.1 c.symm) _)
        have NY : Blk Y nb 64 #[.slice (some ⟨b, 0, none⟩) 1 1, .int .i64 1] := by rw [← hY]; exact Blk.dr ((NB.out.far (fun c => by have c' : nb = g := c; omega) _).far (fun c => by have c' : nb = g := c; omega) _)
        have EY : Below w.heap.size w Y := by rw [← hY]; exact ((EH.out.setCell (by show w.heap.size ≤ g; exact hgw) _).setCell (by show w.heap.size ≤ g; exact hgw) _).drew
        obtain ⟨n0, n1, _, _⟩ := NY.pair
        obtain ⟨x0, x1, y0, y1⟩ := SY.pair
        have Q := Lib.hid (show OS w ((Y.setCell ⟨l, 0, none⟩ (.slice (some ⟨b, 0, none⟩) 1 1)).setCell ⟨l, 1, none⟩ (.int .i64 1)) b g l 1 0 1 from ⟨(OY.far hgl'.out.1 _).far hgl'.out.1 _, SY.put2 _ _, (RY.far (fun c => hgl'.out.2.2 c.symm) _).far (fun c => hgl'.out.2.2 c.symm) _, (EY.setCell hlw _).setCell hlw _⟩)
        clear OY SY RY NY EY hY OB SB RB NB EH c0 c1 d0 d1
        go_wp2_with fail
        go_roundg 0
        case measure => omega
        case rel => exact .inr ⟨rfl, by go_num, Q⟩
      · obtain ⟨x0, x1, y0, y1⟩ := HY.out.s.pair
        obtain ⟨r0, r1, f0, f1⟩ := HY.out.r.pair
        go_wp2_with fail
        go_region
        obtain ⟨Y, hYe⟩ : ∃ Y, ((wr.setCell ⟨w.heap.size + 1, 0, none⟩ (.slice (some ⟨b, 0, none⟩) 1 1)).setCell ⟨w.heap.size + 1, 1, none⟩ (.int .i64 1)).drew = Y := ⟨_, rfl⟩
        rw [hYe]
        have RY : Blk Y (w.heap.size + 1) 64 #[.slice (some ⟨b, 0, none⟩) 1 1, .int .i64 1] := by rw [← hYe]; exact Blk.dr (HY.out.r.put2 _ _)
        have OY : Blk Y g 3 #[.int .i64 1, .int .i64 0] := by rw [← hYe]; exact Blk.dr ((HY.out.o.far hgl'.out.2.1 _).far hgl'.out.2.1 _)
        have EY : Below w.heap.size w Y := by rw [← hYe]; exact ((HY.out.e.setCell (by show w.heap.size ≤ w.heap.size + 1; omega) _).setCell (by show w.heap.size ≤ w.heap.size + 1; omega) _).drew
        obtain ⟨r0, r1, _, _⟩ := RY.pair
        have RD : Hid (RdI Y .i64 (some ⟨g, 0, none⟩) [1, 0]) := Lib.hid (by
          apply rdI_mk
          intro i hi
          match i, hi with
          | 0, _ => exact ⟨(OY.cell 0).trans rfl, rfl⟩
          | 1, _ => exact ⟨(OY.cell 1).trans rfl, rfl⟩)
        have EYh := Lib.hid EY
        clear RY OY EY hYe x0 x1 y0 y1 f0 f1
        go_wp2_with fail
        refine bodyPost_ret (v := .tuple #[.slice (some ⟨g, 0, none⟩) 2 2, .agg #[.slice (some ⟨b, 0, none⟩) 1 1, .int .i64 1], .int .i64 0]) (by simp [results, Try.results36, go_sem, *]) rfl ⟨_, rfl, RD.out, EYh.out⟩
  · have hX := os_second (b := b) hown hb1
    clear hown hb1 k0 k1 m0 m1 n0 n1 MBh
    obtain ⟨X, hXe⟩ : ∃ X, (w1.setCell ⟨w.heap.size + 1 + 1, 0, none⟩ (.slice (some ⟨b, 0, none⟩) 1 1)).setCell ⟨w.heap.size + 1 + 1, 1, none⟩ (.int .i64 0) = X := ⟨_, rfl⟩
    rw [hXe] at hX ⊢
    obtain ⟨g, hg⟩ : ∃ g, w.heap.size + 1 + 1 + 1 = g := ⟨_, rfl⟩
    rw [hg] at hX ⊢
    obtain ⟨l, hl⟩ : ∃ l, w.heap.size + 1 + 1 = l := ⟨_, rfl⟩
    have hgl : g ≠ l ∧ g ≠ w.heap.size + 1 ∧ l ≠ w.heap.size + 1 := by omega
    have hgw : w.heap.size ≤ g := by omega
    have hlw : w.heap.size ≤ l := by omega
    rw [hl] at hX ⊢
    have hgl' := Lib.hid hgl
    have HX := Lib.hid hX
    clear hX hXe hg hl
    have hbX := HX.out.e.size
    have B2 := Lib.hid (fun W h => below7 b W h)
    go_loopg [9] 1 (fun gh i wr => (gh = 1 ∧ i = .int .i64 1 ∧ wr = X) ∨ (gh = 0 ∧ i = .int .i64 0 ∧ Hid (OS w wr b g l 1 0 1)))
    case atStart => exact .inl ⟨rfl, rfl, rfl⟩
    case round =>
      rcases hrel with ⟨rfl, rfl, rfl⟩ | ⟨rfl, rfl, HY⟩
      · obtain ⟨x0, x1, y0, y1⟩ := HX.out.s.pair
        go_wp2_with fail
        refine (B2.out _ (HX.out.e.cell (p := ⟨b, 0, none⟩) (lt_of_cell HC.out) |>.trans HC.out)).mono ?_
        rintro e w2 ⟨rfl, hb2⟩
        have hsz : g < w2.heap.size := (HX.out.o.next hb2).lt
        have O2 := (HX.out.o.next hb2).alloc (.cells #[.slice (some ⟨b, 0, none⟩) 1 1, .int .i64 1] 64)
        have S2 := (HX.out.s.next hb2).alloc (.cells #[.slice (some ⟨b, 0, none⟩) 1 1, .int .i64 1] 64)
        have R2 := (HX.out.r.next hb2).alloc (.cells #[.slice (some ⟨b, 0, none⟩) 1 1, .int .i64 1] 64)
        have N2 := Blk.new w2 #[(.slice (some ⟨b, 0, none⟩) 1 1 : Value), .int .i64 1] 64
        have hsl : l < w2.heap.size := (HX.out.s.next hb2).lt
        have hsr : w.heap.size + 1 < w2.heap.size := (HX.out.r.next hb2).lt
        have EB : Below w.heap.size w w2 := HX.out.e.trans (hb2.mono hbX)
        have EV := EB.alloc EB.size (.cells #[.slice (some ⟨b, 0, none⟩) 1 1, .int .i64 1] 64)
        obtain ⟨nb, hnb⟩ : ∃ nb, w2.heap.size = nb := ⟨_, rfl⟩
        clear EB x0 x1 y0 y1 hb2
        go_wp2_with fail
        obtain ⟨V, hV⟩ : ∃ V, w2.alloc (.cells #[.slice (some ⟨b, 0, none⟩) 1 1, .int .i64 1] 64) = V := ⟨_, rfl⟩
        rw [hV] at O2 S2 R2 N2 EV ⊢
        rw [hnb] at N2 hsz hsl hsr
        obtain ⟨c0, c1, d0, d1⟩ := O2.pair
        have h01 : (0 : Nat) ≠ 1 := by omega
        have OB := Lib.hid O2
        have SB := Lib.hid S2
        have RB := Lib.hid R2
        have NB := Lib.hid N2
        have EH := Lib.hid EV
        clear O2 S2 R2 N2 EV hV hnb
        go_region
        obtain ⟨Y, hY⟩ : ∃ Y, ((V.setCell ⟨g, 1, none⟩ (.int .i64 0)).setCell ⟨g, 0, none⟩ (.int .i64 1)).drew = Y := ⟨_, rfl⟩
        rw [hY]
        have OY : Blk Y g 3 #[.int .i64 1, .int .i64 0] := by rw [← hY]; exact Blk.dr ((OB.out.set 1 _).set 0 _)
        have SY : Blk Y l 64 #[.slice (some ⟨b, 0, none⟩) 1 1, .int .i64 0] := by rw [← hY]; exact Blk.dr ((SB.out.far (fun c => hgl'.out.1 c.symm) _).far (fun c => hgl'.out.1 c.symm) _)
        have RY : Blk Y (w.heap.size + 1) 64 #[.slice none 0 0, .int .i64 0] := by rw [← hY]; exact Blk.dr ((RB.out.far (fun c => hgl'.out.2.1 c.symm) _).far (fun c => hgl'.out.2.1 c.symm) _)
        have NY : Blk Y nb 64 #[.slice (some ⟨b, 0, none⟩) 1 1, .int .i64 1] := by rw [← hY]; exact Blk.dr ((NB.out.far (fun c => by have c' : nb = g := c; omega) _).far (fun c => by have c' : nb = g := c; omega) _)
        have EY : Below w.heap.size w Y := by rw [← hY]; exact ((EH.out.setCell (by show w.heap.size ≤ g; exact hgw) _).setCell (by show w.heap.size ≤ g; exact hgw) _).drew
        obtain ⟨n0, n1, _, _⟩ := NY.pair
        obtain ⟨x0, x1, y0, y1⟩ := SY.pair
        have Q := Lib.hid (show OS w ((Y.setCell ⟨l, 0, none⟩ (.slice (some ⟨b, 0, none⟩) 1 1)).setCell ⟨l, 1, none⟩ (.int .i64 1)) b g l 1 0 1 from ⟨(OY.far hgl'.out.1 _).far hgl'.out.1 _, SY.put2 _ _, (RY.far (fun c => hgl'.out.2.2 c.symm) _).far (fun c => hgl'.out.2.2 c.symm) _, (EY.setCell hlw _).setCell hlw _⟩)
        clear OY SY RY NY EY hY OB SB RB NB EH c0 c1 d0 d1
        go_wp2_with fail
        go_roundg 0
        case measure => omega
        case rel => exact .inr ⟨rfl, by go_num, Q⟩
      · obtain ⟨x0, x1, y0, y1⟩ := HY.out.s.pair
        obtain ⟨r0, r1, f0, f1⟩ := HY.out.r.pair
        go_wp2_with fail
        go_region
        obtain ⟨Y, hYe⟩ : ∃ Y, ((wr.setCell ⟨w.heap.size + 1, 0, none⟩ (.slice (some ⟨b, 0, none⟩) 1 1)).setCell ⟨w.heap.size + 1, 1, none⟩ (.int .i64 1)).drew = Y := ⟨_, rfl⟩
        rw [hYe]
        have RY : Blk Y (w.heap.size + 1) 64 #[.slice (some ⟨b, 0, none⟩) 1 1, .int .i64 1] := by rw [← hYe]; exact Blk.dr (HY.out.r.put2 _ _)
        have OY : Blk Y g 3 #[.int .i64 1, .int .i64 0] := by rw [← hYe]; exact Blk.dr ((HY.out.o.far hgl'.out.2.1 _).far hgl'.out.2.1 _)
        have EY : Below w.heap.size w Y := by rw [← hYe]; exact ((HY.out.e.setCell (by show w.heap.size ≤ w.heap.size + 1; omega) _).setCell (by show w.heap.size ≤ w.heap.size + 1; omega) _).drew
        obtain ⟨r0, r1, _, _⟩ := RY.pair
        have RD : Hid (RdI Y .i64 (some ⟨g, 0, none⟩) [1, 0]) := Lib.hid (by
          apply rdI_mk
          intro i hi
          match i, hi with
          | 0, _ => exact ⟨(OY.cell 0).trans rfl, rfl⟩
          | 1, _ => exact ⟨(OY.cell 1).trans rfl, rfl⟩)
        have EYh := Lib.hid EY
        clear RY OY EY hYe x0 x1 y0 y1 f0 f1
        go_wp2_with fail
        refine bodyPost_ret (v := .tuple #[.slice (some ⟨g, 0, none⟩) 2 2, .agg #[.slice (some ⟨b, 0, none⟩) 1 1, .int .i64 1], .int .i64 0]) (by simp [results, Try.results36, go_sem, *]) rfl ⟨_, rfl, RD.out, EYh.out⟩
end Go.Proofs.Yteebeiflipfbkaa
