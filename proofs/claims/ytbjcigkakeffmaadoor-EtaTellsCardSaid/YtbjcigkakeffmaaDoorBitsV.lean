/- The program's All, gone through: the iterator's contract; the law's own row of all. -/
import Derived.RangeFuncBox
import Derived.RangeFuncNested
import Derived.RangeFuncBound
import Derived.RangeFuncCalls
import Derived.RangeFuncLeaves
import Derived.Shelf.Abstract
import Derived.Shelf.RegionOpen
import Derived.WalkKit
import Derived.OwnWalkIn
import Derived.TacticsInMore
import Derived.LoopNIn
import Derived.LoopIn
import Derived.Maps.AppendAt
import Derived.Lib.Hide
import Derived.Test.YtbjcigkakeffmaaDoorRows
import Derived.Test.YtbjcigkakeffmaaDoorKitM
import Derived.Test.YtbjcigkakeffmaaDoorBitM
import Derived.Test.YtbjcigkakeffmaaDoorBitsU
namespace Go.Proofs.YtbjcigkakeffmaaDoor
open Go.RowKit Go.Shelf
set_option linter.unusedSimpArgs false
set_option linter.unusedVariables false
attribute [local go_sem] Oper.semAt_some
theorem below_grow {W W' : World} (h : Below W.heap.size W W') : W.grownBy W' none := ⟨h.os, h.tape, h.output, h.size, fun k hk _ => h.block k hk⟩
/-- what a round keeps: what lay below n0, and the set's own block -/
def KpB (n0 Bn : Nat) (W W' : World) : Prop := Below n0 W W' ∧ W'.heap[Bn]? = W.heap[Bn]?
theorem kpB_t {n0 Bn : Nat} {A B C : World} (h : KpB n0 Bn A B) (k : KpB n0 Bn B C) : KpB n0 Bn A C := ⟨h.1.trans k.1, k.2.trans h.2⟩
theorem kpB_b {n0 Bn : Nat} {w : World} (hn : n0 ≤ w.heap.size) (hB : Bn < w.heap.size) (W : World) (l : Nat) (o o' : Obj) (hl : w.heap.size ≤ l) (h : W.heap[l]? = some o) (h1 : o.isCells = false) (h2 : o.isWalk = false) : KpB n0 Bn W (W.putObj l o') :=
  ⟨belowK_b hn W l o o' hl h h1 h2, World.putObj_heap_other (by omega)⟩
theorem itL_skip (F : Nat → Bool) (k : Nat) : ∀ m, k ≤ m → (∀ j, k ≤ j → j < m → F j = false) → itL F m = itL F k
  | 0, h, _ => by obtain rfl : k = 0 := by omega
                  rfl
  | m + 1, h, g => by
    by_cases e : k = m + 1
    · subst e; rfl
    · rw [itL_no (g m (by omega) (by omega)), itL_skip F k m (by omega) fun j h1 h2 => g j h1 (by omega)]
theorem geF_no {F : Nat → Bool} {k j : Nat} (h : geF F k j = false) (hk : k ≤ j) : F j = false := by
  unfold geF lowF at h
  rw [decide_eq_false (show ¬ ((j : Int) < (k : Int)) by omega)] at h
  simpa using h
theorem geF_yes {F : Nat → Bool} {k j : Nat} (h : geF F k j = true) : F j = true ∧ k ≤ j := by
  unfold geF lowF at h
  simp at h
  exact ⟨h.1, by omega⟩
def isT : Value → Bool
  | .bool b => b
  | _ => false
def mS (n ok : Value) : Nat := if isT ok then 128 - (intOf n).toNat else 0
theorem mS_t (r : Int) : mS (.int .i64 r) (.bool true) = 128 - r.toNat := rfl
theorem mS_f (r : Int) : mS (.int .i64 r) (.bool false) = 0 := rfl
set_option maxRecDepth 100000 in
set_option maxHeartbeats 1000000 in
theorem all1_in (F : Nat → Bool) (m l Bn : Nat) (w0 : World) (hT : TzT w0) (J Jx : List Int → World → Prop) (hJ : ∀ s W W', J s W → W.grownBy W' none → J s W')
    (hY : ∀ pre x W, J pre W → pre.length < 128 → YieldAt Fence.wide m Tryd.prog l #[.int .i64 x] W fun e W' =>
      (e = .returned (.bool true) ∧ J (pre ++ [x]) W' ∧ KpB w0.heap.size Bn W W') ∨ (e = .returned (.bool false) ∧ Jx (pre ++ [x]) W'))
    (W : World) (hB : Blk W Bn 40 #[.int .u64 (wordX F), .int .u64 (wordY F)]) (hW : Below w0.heap.size w0 W) (h0 : J [] W) :
    CallsIn Fence.wide (m + 1) Tryd.prog 62 #[.func (.yield l) #[] #[], .pointer (some ⟨Bn, 0, none⟩)] W fun e W' => (∃ v, e = .returned v) ∧
      ((∃ ys, ys = itL F 128 ∧ J ys W') ∨ (∃ pre, True ∧ Jx pre W')) := by
  have NX := fun n w hT => next_any F n w hT
  unfold setV at NX
  obtain ⟨x, hX⟩ : ∃ x, wordX F = x := ⟨_, rfl⟩
  obtain ⟨y, hY'⟩ : ∃ y, wordY F = y := ⟨_, rfl⟩
  rw [hX, hY'] at NX hB
  have NXh := Lib.hid NX
  have HT := Lib.hid hT
  have HJ := Lib.hid hJ
  have HY := Lib.hid hY
  have HB := Lib.hid hB
  have HW := Lib.hid hW
  obtain ⟨c0, c1, _, _⟩ := hB.two
  clear NX hX hY' hT hJ hY hB hW
  refine callsIn_of_wp Tryd.func62 rfl trivial ?_ rfl
  simp only [Tryd.ntmps62, List.size_toArray, List.length_cons, List.length_nil, Nat.reduceAdd, Nat.reduceSub, Array.replicate_succ, Array.replicate_zero, List.push_toArray, List.append_toArray, List.nil_append, List.cons_append]
  gi_wp2
  refine ⟨trivial, ?_⟩
  refine (callsIn_wide.2 (NXh.out 0 W (HT.out.kept HW.out))).mono ?_
  rintro e W1 ⟨r0, b0, rfl, hlo0, hb1⟩
  have J1 := Lib.hid (HJ.out _ _ _ h0 (below_grow hb1))
  have B1 := Lib.hid (HB.out.next hb1)
  have E1 := Lib.hid (HW.out.trans (hb1.mono HW.out.size))
  have L1 := Lib.hid hlo0
  clear hb1 h0 hlo0 c0 c1 HB HW
  gi_wp2
  gi_loopw [3, 4] (fun n ok wr => ∃ (k : Nat) (r : Int) (b : Bool), n = .int .i64 r ∧ ok = .bool b ∧ k ≤ 128 ∧ Hid (IsLo (geF F k) r b) ∧ Hid (J (itL F k) wr) ∧ Hid (Blk wr Bn 40 #[.int .u64 x, .int .u64 y]) ∧ Hid (Below w0.heap.size w0 wr)) (fun n ok _ => mS n ok)
  case atStart => exact ⟨0, r0, b0, rfl, rfl, by omega, L1, J1, B1, E1⟩
  case round =>
    obtain ⟨k, r, b, rfl, rfl, hk, hlo, hj, hB, hE⟩ := hrel
    clear L1 J1 B1 E1
    rcases hlo.out with ⟨rfl, q, rfl, hq, hg, hl⟩ | ⟨rfl, rfl, hn⟩
    · obtain ⟨hF, hkq⟩ := geF_yes hg
      have S1 : Hid (itL F k ++ [(q : Int)] = itL F (q + 1)) := Lib.hid (by rw [itL_yes hF, itL_skip F k q hkq fun j h1 h2 => geF_no (hl j h2) h1])
      obtain ⟨fn, tmps, assign, body, hy, hR⟩ := HY.out _ (q : Int) wr hj.out (by have := itL_len F k; omega)
      clear hl hg hF hlo hj
      gi_wp2
      refine hR.mono ?_
      rintro e W3 (⟨rfl, hJ3, hk3⟩ | ⟨rfl, hJx3⟩)
      · have B3 : Hid (Blk W3 Bn 40 #[.int .u64 x, .int .u64 y]) := Lib.hid (hk3.2.trans hB.out)
        have E3 := Lib.hid (hE.out.trans hk3.1)
        rw [S1.out] at hJ3
        have J3 := Lib.hid hJ3
        obtain ⟨c0, c1, _, _⟩ := B3.out.two
        clear hJ3 hk3 hR hy hB hE
        gi_wp2
        refine ⟨trivial, ?_⟩
        refine (callsIn_wide.2 (NXh.out ((q : Int) + 1) W3 (HT.out.kept E3.out))).mono ?_
        rintro e W4 ⟨r', b', rfl, hlo', hb4⟩
        have J4 := Lib.hid (HJ.out _ _ _ J3.out (below_grow hb4))
        have B4 := Lib.hid (B3.out.next hb4)
        have E4 := Lib.hid (E3.out.trans (hb4.mono E3.out.size))
        have M : Hid (mS (.int .i64 r') (.bool b') < mS (.int .i64 (q : Int)) (.bool true)) := Lib.hid (by
          rcases hlo' with ⟨rfl, q', rfl, hq', hg', _⟩ | ⟨rfl, rfl, _⟩
          · have := geF_yes (k := q + 1) hg'
            rw [mS_t, mS_t]; omega
          · rw [mS_f, mS_t]; omega)
        have L4 : Hid (IsLo (geF F ((q + 1 : Nat) : Int)) r' b') := Lib.hid hlo'
        clear hb4 hlo' c0 c1 J3 B3 E3
        gi_wp2
        go_roundw
        case rel => exact ⟨q + 1, r', b', rfl, rfl, by omega, L4, J4, B4, E4⟩
        case measure => exact M.out
      · gi_wp2
        refine bodyPost_ret (results_none rfl _ _ _) rfl ?_
        exact ⟨⟨_, rfl⟩, .inr ⟨_, trivial, hJx3⟩⟩
    · have S1 : itL F 128 = itL F k := itL_skip F k 128 hk fun j h1 h2 => geF_no (hn j h2) h1
      gi_wp2
      go_end0
      exact ⟨⟨_, rfl⟩, .inl ⟨_, S1.symm, hj.out⟩⟩
theorem all_stops (F : Nat → Bool) (m Bn : Nat) (w0 w : World) (hT : TzT w0) (hB : Blk w Bn 40 #[.int .u64 (wordX F), .int .u64 (wordY F)]) (hW : Below w0.heap.size w0 w) :
    SeqStopsK Fence.wide (m + 1) Tryd.prog 62 #[.pointer (some ⟨Bn, 0, none⟩)] (fun x : Int => #[Value.int .i64 x]) (KpB w0.heap.size Bn) (fun ys => ys = itL F 128) (fun _ => True) 128 w := fun l J Jx W hw hJ _ hY h0 =>
  all1_in F m l Bn w0 hT J Jx (fun s A B hs hg => hJ s A B none hs hg (fun r e => by cases e)) hY W (hB.next hw) (hW.trans (hw.mono hW.size)) h0
set_option maxHeartbeats 1000000 in
theorem allc_any (x y : Int) (w : World) : Calls Tryd.prog 52 #[.agg #[.int .u64 x, .int .u64 y]] w fun e w' => e = .returned (.func (.func 62) #[] #[.pointer (some ⟨w.heap.size, 0, none⟩)]) ∧ w' = w.alloc (.cells #[.int .u64 x, .int .u64 y] 40) := by
  go_enter Tryd.func52, Tryd.ntmps52
  go_wp2
  go_ret
  exact ⟨rfl, rfl⟩
end Go.Proofs.YtbjcigkakeffmaaDoor
