/- slices.Values at a row of numbers, gone through by slices.AppendSeq. -/
import Derived.Test.YtcofafiacpecnaaRows
import Derived.Test.YtcofafiacpecnaaRowKit
import Derived.Test.YtcofafiacpecnaaSlicesEq
import Derived.Test.YtcofafiacpecnaaRowL
import Derived.Test.YtcofafiacpecnaaShelf
import Derived.Shelf.SlIterI.Collect
import Derived.Sort.OwnSorted
import Derived.WalkKit
import Derived.Lib.Hide
import Derived.WalkSpells
import Derived.WalkLawsBesides
namespace Go.Proofs.Ytcofafiacpecnaa
open Go.RowKit Go.Maps Go.Sort Go.Shelf
set_option linter.unusedSimpArgs false
set_option linter.unusedVariables false
def seqR : Ren := ⟨fun | 11 => 124 | n => n, fun | 24 => 23 | 26 => 3 | 28 => 139 | 33 => 159 | n => n, fun n => n⟩
theorem seqL : SlLaysZI.n11 Try.prog seqR where
  mixed := by kernel_rfl
  f11 := ⟨"slices.AppendSeq[[]int,int]", by kernel_rfl, Try.func124.trans (congrArg some (by kernel_rfl))⟩
  t0 := Try.underlying0
  a0 := Try.isAgg0
  z0 := Try.sizeOf0
  v0 := Try.zeroValue0
  t24 := Try.underlying23
  a24 := Try.isAgg23
  z24 := Try.sizeOf23
  v24 := Try.zeroValue23
  t26 := Try.underlying3
  a26 := Try.isAgg3
  z26 := Try.sizeOf3
  v26 := Try.zeroValue3
  t28 := Try.underlying139
  a28 := Try.isAgg139
  z28 := Try.sizeOf139
  v28 := Try.zeroValue139
  i26 := by kernel_rfl
theorem take_zat {zs : List Int} {k : Nat} (h : k < zs.length) : zs.take (k + 1) = zs.take k ++ [zat zs k] := by
  rw [List.take_succ_eq_append_getElem h]; unfold zat; rw [List.getD_eq_getElem?_getD, List.getElem?_eq_getElem h]; rfl
set_option maxRecDepth 100000 in
set_option maxHeartbeats 1000000 in
/-- the numbers come one by one, as long as what was there ahead of it all stays -/
theorem values_it (A : Option Addr) (m l Bm b off n c : Nat) (zs : List Int) (w0 : World) (J : List Int → World → Prop) (hJ : ∀ ss W, J ss W → Below w0.heap.size w0 W)
    (hY : ∀ pre x W1, J pre W1 → pre.length < n → YieldAt Fence.wide m Try.prog l #[encZ x] W1 fun e W' => e = .returned (.bool true) ∧ J (pre ++ [x]) W' ∧ KeepsWalks W1 W')
    (W : World) (h0 : J [] W) (hm : w0.cell? ⟨Bm, 0, none⟩ = some (.slice A n c)) (hA : 0 < n → A = some ⟨b, off, none⟩) (hc : ∀ i, i < n → w0.cell? ⟨b, off + i, none⟩ = some (.int .i64 (zat zs i))) (hn : zs.length = n) (hnm : n ≤ maxLen) :
    CallsIn Fence.wide (m + 1) Try.prog 114 #[.func (.yield l) #[] #[], .pointer (some ⟨Bm, 0, none⟩)] W fun e W' => (∃ v, e = .returned v) ∧ J zs W' := by
  unfold maxLen at hnm
  have hm0 : W.cell? ⟨Bm, 0, none⟩ = some (.slice A n c) := ((hJ _ _ h0).cell (p := ⟨Bm, 0, none⟩) (lt_of_cell hm)).trans hm
  have HC := Lib.hid hc
  have HN := Lib.hid hn
  have HJ := Lib.hid hJ
  have HY := Lib.hid hY
  have HA := Lib.hid hA
  clear hc hn hJ hY hA
  refine callsIn_of_wp Try.func114 rfl trivial ?_ rfl
  simp only [Try.ntmps114, List.size_toArray, List.length_cons, List.length_nil, Nat.reduceAdd, Nat.reduceSub, Array.replicate_succ, Array.replicate_zero, List.push_toArray, List.append_toArray, List.nil_append, List.cons_append]
  gi_wp2
  gi_loopw [7] (fun i wr => ∃ k : Nat, k ≤ n ∧ i = .int .i64 k ∧ J (zs.take k) wr) (fun i _ => n - (intOf i).toNat)
  case atStart => exact ⟨0, by omega, rfl, h0⟩
  case round =>
    obtain ⟨k, hk, rfl, hj⟩ := hrel
    by_cases h : k < n
    · obtain rfl := HA.out (by omega)
      have ck : wr.cell? ⟨b, off + k, none⟩ = some (.int .i64 (zat zs k)) := ((HJ.out _ _ hj).cell (p := ⟨b, off + k, none⟩) (lt_of_cell (HC.out k h))).trans (HC.out k h)
      have ht := Lib.hid (take_zat (zs := zs) (k := k) (by rw [HN.out]; exact h))
      obtain ⟨fn, tmps, assign, body, hy, hR⟩ := HY.out _ (zat zs k) wr hj (by have := HN.out; rw [List.length_take]; omega)
      obtain ⟨x, hx⟩ : ∃ x, zat zs k = x := ⟨_, rfl⟩
      rw [hx] at ck hy hR ht
      clear hx
      gi_wp2
      refine hR.mono ?_
      rintro e W3 ⟨rfl, hJ3, hk3⟩
      gi_wp2
      go_roundw
      case rel => exact ⟨k + 1, by omega, by go_num, by rw [ht.out]; exact hJ3⟩
      case measure => simp [intOf]; omega
    · obtain rfl : k = n := by omega
      gi_wp2
      go_end0
      exact ⟨⟨_, rfl⟩, by have := HN.out; rwa [List.take_of_length_le (by omega)] at hj⟩
end Go.Proofs.Ytcofafiacpecnaa
