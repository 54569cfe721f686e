/- slices.Chunk at a row of numbers: the iterator's contract. -/
import Derived.Test.YtnjdeikikdieoaaHistS
import Derived.RangeFuncBox
import Derived.RangeFuncNested
import Derived.RangeFuncBound
import Derived.RangeFuncCalls
import Derived.RangeFuncLeaves
import Derived.Shelf.Abstract
import Derived.Shelf.RegionOpen
import Derived.WalkKit
import Derived.OwnWalkIn
import Derived.TacticsInMore
import Derived.LoopNIn
import Derived.LoopIn
import Derived.Maps.AppendAt
import Derived.Lib.Hide
namespace Go.Proofs.Ytnjdeikikdieoaa
open Go.RowKit Go.Shelf
set_option linter.unusedSimpArgs false
set_option linter.unusedVariables false
attribute [local go_sem] Oper.semAt_some
/-- a row in parts of so many -/
def chF (K : Nat) : Nat → List Int → List (List Int)
  | 0, _ => []
  | f + 1, l => if l = [] then [] else l.take K :: chF K f (l.drop K)
theorem chF_step {K f : Nat} {l : List Int} (h : l ≠ []) : chF K (f + 1) l = l.take K :: chF K f (l.drop K) := by rw [chF, if_neg h]
theorem chF_nil {K f : Nat} : chF K f [] = [] := by cases f <;> simp [chF]
/-- a part: its value, its numbers -/
abbrev Part (w : World) := { p : Value × List Int // IsI w p.1 p.2 ∧ p.2.length ≤ 100 }
theorem part_is {w : World} {b off c : Nat} {z : List Int} (h : RdI w .i64 (some ⟨b, off, none⟩) z) {p K e : Nat} (hp : p < z.length) (he : e = min K (z.length - p)) (hz : z.length ≤ 100) : IsI w (.slice (some ⟨b, off + p, none⟩) e e) ((z.drop p).take K) ∧ ((z.drop p).take K).length ≤ 100 := by
  obtain ⟨b', off', e', _, hc⟩ := rdI_row h (by omega)
  simp only [Option.some.injEq, Addr.mk.injEq] at e'
  obtain ⟨rfl, rfl, _⟩ := e'
  have hl : ((z.drop p).take K).length = e := by rw [List.length_take, List.length_drop, he]
  refine ⟨⟨some ⟨b, off + p, none⟩, e, by rw [hl], ?_, by omega, by unfold maxLen; omega, fun h => by cases h⟩, by omega⟩
  refine rdI_mk fun i hi => ?_
  have ez : zat ((z.drop p).take K) i = zat z (p + i) := by
    unfold zat
    rw [List.getD_eq_getElem?_getD, List.getD_eq_getElem?_getD, List.getElem?_take, if_pos (by omega), List.getElem?_drop]
  rw [ez, Nat.add_assoc]
  refine ⟨hc _ (by omega), ?_⟩
  obtain ⟨_, _, _, _, hw⟩ := h (p + i) (by omega)
  exact hw
/-- the two boxes lie as they lay -/
def KpC (Bs Bk : Nat) (W W' : World) : Prop := W'.heap[Bs]? = W.heap[Bs]? ∧ W'.heap[Bk]? = W.heap[Bk]?
theorem cell_same {W W' : World} {b : Nat} (h : W'.heap[b]? = W.heap[b]?) : W'.cell? ⟨b, 0, none⟩ = W.cell? ⟨b, 0, none⟩ := by simp [World.cell?, h]
set_option maxRecDepth 100000 in
set_option maxHeartbeats 2000000 in
theorem chunk1_in (m l0 Bs Bk : Nat) (A : Option Addr) (c K : Nat) (z : List Int) (w0 : World) (hz : z.length ≤ 100) (hK : 1 ≤ K) (hK2 : K ≤ 9223372036854775807) (hr : RdI w0 .i64 A z) (hzc : z.length ≤ c) (hcm : c ≤ maxLen) (J Jx : List (Part w0) → World → Prop)
    (hJd : ∀ ss W1, J ss W1 → J ss W1.drew) (hY : ∀ pre x W1, J pre W1 → pre.length < 101 → YieldAt Fence.wide m Try.prog l0 #[x.1.1] W1 fun e W' => (e = .returned (.bool true) ∧ J (pre ++ [x]) W' ∧ KpC Bs Bk W1 W') ∨ (e = .returned (.bool false) ∧ Jx (pre ++ [x]) W'))
    (W : World) (hs : W.cell? ⟨Bs, 0, none⟩ = some (.slice A z.length c)) (hk : W.cell? ⟨Bk, 0, none⟩ = some (.int .i64 K)) (h0 : J [] W) :
    CallsIn Fence.wide (m + 1) Try.prog 44 #[.func (.yield l0) #[] #[], .pointer (some ⟨Bs, 0, none⟩), .pointer (some ⟨Bk, 0, none⟩)] W fun e W' => (∃ v, e = .returned v) ∧
      ((∃ ys, ys.map (fun x => x.1.2) = chF K 101 z ∧ J ys W') ∨ (∃ pre, True ∧ Jx pre W')) := by
  unfold maxLen at hcm
  have HR := Lib.hid hr
  have HY := Lib.hid hY
  have hJ0 := h0
  have HJD := Lib.hid hJd
  clear hr hY h0 hJd
  refine callsIn_of_wp Try.func44 rfl trivial ?_ rfl
  simp only [Try.ntmps44, List.size_toArray, List.length_cons, List.length_nil, Nat.reduceAdd, Nat.reduceSub, Array.replicate_succ, Array.replicate_zero, List.push_toArray, List.append_toArray, List.nil_append, List.cons_append]
  gi_wp2
  gi_loopw [4] (fun i wr => ∃ (p f : Nat) (pre : List (Part w0)), i = .int .i64 p ∧ Hid (pre.map (fun x => x.1.2) ++ chF K f (z.drop p) = chF K 101 z) ∧ (p < z.length → z.length - p < f ∧ pre.length + f = 101 ∧ (p = 0 ∨ K ≤ p)) ∧ p ≤ 9223372036854775807 ∧ Hid (J pre wr) ∧ Hid (wr.cell? ⟨Bs, 0, none⟩ = some (.slice A z.length c) ∧ wr.cell? ⟨Bk, 0, none⟩ = some (.int .i64 K)))
    (fun i wr => z.length - (intOf i).toNat)
  case atStart => exact ⟨0, 101, [], rfl, Lib.hid rfl, fun _ => ⟨by omega, rfl, .inl rfl⟩, by omega, Lib.hid hJ0, Lib.hid ⟨hs, hk⟩⟩
  case round =>
    clear hs hk hJ0
    obtain ⟨p, f, pre, rfl, HC, hp, hp2, HJ, HB⟩ := hrel
    have cs := HB.out.1
    have ck := HB.out.2
    by_cases h : p < z.length
    · obtain ⟨hf, hpf, hpk⟩ := hp h
      obtain ⟨b, off, rfl, _, _⟩ := rdI_row HR.out (by omega)
      obtain ⟨e, he⟩ : ∃ e, e = min K (z.length - p) := ⟨_, rfl⟩
      have hpi := part_is (c := c) (K := K) (e := e) HR.out h he hz
      obtain ⟨fn, tmps, assign, body, hy, hR⟩ := HY.out pre ⟨(_, _), hpi⟩ wr.drew (HJD.out _ _ HJ.out) (by omega)
      dsimp only at hy
      have HRR := Lib.hid hR
      clear hR
      gi_wp2
      have hfol : Try.prog.follows Departure.mixedOrders = true := by kernel_rfl
      have he' : min (K : Int) ((z.length - p : Nat) : Int) = (e : Int) := by omega
      have HE := Lib.hid he'
      have HEE := Lib.hid he
      have hpe : p + e ≤ z.length := by omega
      have he1 : 1 ≤ e := by omega
      clear he' he
      gi_region_with_o fail
      all_goals rw [HE.out]
      all_goals clear hfol
      all_goals gi_wp2
      all_goals (
        refine HRR.out.mono ?_
        rintro e3 W3 (⟨rfl, hJ3, hk3⟩ | ⟨rfl, hJx3⟩)
        · have cs3 : W3.cell? ⟨Bs, 0, none⟩ = some (.slice (some ⟨b, off, none⟩) z.length c) := (cell_same hk3.1).trans HB.out.1
          have ck3 : W3.cell? ⟨Bk, 0, none⟩ = some (.int .i64 K) := (cell_same hk3.2).trans HB.out.2
          have hpK : (p : Int) + K ≤ 9223372036854775807 := by omega
          have HJ3 := Lib.hid hJ3
          clear hJ3 hk3
          gi_wp2
          go_roundw
          case rel =>
            refine ⟨p + K, f - 1, pre ++ [⟨(_, _), hpi⟩], by go_num, Lib.hid ?_, fun _ => ⟨by omega, by simp; omega, .inr (by omega)⟩, by omega, HJ3, Lib.hid ⟨cs3, ck3⟩⟩
            have hc := HC.out
            obtain ⟨f', rfl⟩ : ∃ f', f = f' + 1 := ⟨f - 1, by omega⟩
            rw [chF_step (by intro h0; have := congrArg List.length h0; rw [List.length_drop, List.length_nil] at this; omega), List.drop_drop] at hc
            rw [List.map_append, List.append_assoc]
            exact hc
          case measure => simp [intOf]; omega
        · gi_wp2
          refine bodyPost_ret (results_none rfl _ _ _) rfl ?_
          exact ⟨⟨_, rfl⟩, .inr ⟨_, trivial, hJx3⟩⟩)
    · gi_wp2
      go_end0
      have hd : z.drop p = [] := List.drop_eq_nil_of_le (by omega)
      have hc := HC.out
      rw [hd, chF_nil, List.append_nil] at hc
      exact ⟨⟨_, rfl⟩, .inl ⟨pre, hc, HJ.out⟩⟩
end Go.Proofs.Ytnjdeikikdieoaa
