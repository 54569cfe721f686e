/- Entries: rows of them as lists; slices.Values at any row of them. -/
import Derived.Test.YtobeppajomhfjaaRows
import Derived.Test.YtobeppajomhfjaaRowKit
import Derived.Test.YtobeppajomhfjaaRowS
import Derived.Test.YtobeppajomhfjaaRowZ
import Derived.Test.YtobeppajomhfjaaSlicesEq
import Derived.Test.YtobeppajomhfjaaSlicesEqM
import Derived.Test.YtobeppajomhfjaaRowL
import Derived.Test.YtobeppajomhfjaaRowM
import Derived.Test.YtobeppajomhfjaaMakeI
import Derived.Test.YtobeppajomhfjaaBlocks
import Derived.Test.YtobeppajomhfjaaAtKit
import Derived.Test.YtobeppajomhfjaaShelf
import Derived.RangeFuncBox
import Derived.RangeFuncNested
import Derived.RangeFuncBound
import Derived.RangeFuncCalls
import Derived.RangeFuncLeaves
import Derived.Shelf.Abstract
import Derived.Shelf.RegionOpen
import Derived.WalkKit
import Derived.OwnWalkIn
import Derived.TacticsInMore
import Derived.LoopNIn
import Derived.LoopIn
import Derived.Maps.AppendAt
import Derived.Lib.Hide
import Derived.IntWalk
namespace Go.Proofs.Ytobeppajomhfjaa
open Go.RowKit Go.Shelf
set_option linter.unusedSimpArgs false
set_option linter.unusedVariables false
attribute [local go_sem] Oper.semAt_some
/-- an entry: time, kind, id -/
abbrev Ent := Int × Int × Int
def zE (L : List Ent) (i j : Nat) : Int := if j = 0 then (L.getD i (0, 0, 0)).1 else if j = 1 then (L.getD i (0, 0, 0)).2.1 else (L.getD i (0, 0, 0)).2.2
def aE (x : Ent) : Value := .agg #[.int .i64 x.1, .int .i64 x.2.1, .int .i64 x.2.2]
theorem zE_at {L : List Ent} {i : Nat} (hi : i < L.length) : L[i] = (zE L i 0, zE L i 1, zE L i 2) := by
  unfold zE
  rw [List.getD_eq_getElem?_getD, List.getElem?_eq_getElem hi]; rfl
/-- the box, and the row's block, lie as they lay -/
def KpV (Bs b : Nat) (W W' : World) : Prop := W'.heap[Bs]? = W.heap[Bs]? ∧ W'.heap[b]? = W.heap[b]?
theorem cell_sameV {W W' : World} {b o : Nat} (h : W'.heap[b]? = W.heap[b]?) : W'.cell? ⟨b, o, none⟩ = W.cell? ⟨b, o, none⟩ := by simp [World.cell?, h]
set_option maxRecDepth 100000 in
set_option maxHeartbeats 2000000 in
theorem values1_in (m l0 Bs b o c : Nat) (A : Option Addr) (L : List Ent) (hz : L.length ≤ 1000) (hA : 0 < L.length → A = some ⟨b, o, none⟩) (J Jx : List Ent → World → Prop)
    (hJa : ∀ ss W1 x, J ss W1 → J ss (W1.alloc x)) (hY : ∀ pre x W1, J pre W1 → pre.length < 1001 → YieldAt Fence.wide m Try.prog l0 #[aE x] W1 fun e W' => (e = .returned (.bool true) ∧ J (pre ++ [x]) W' ∧ KpV Bs b W1 W') ∨ (e = .returned (.bool false) ∧ Jx (pre ++ [x]) W'))
    (W : World) (hs : W.cell? ⟨Bs, 0, none⟩ = some (.slice A L.length c)) (hcell : ∀ i j, i < L.length → j < 3 → W.cell? ⟨b, o + i * 3 + j, none⟩ = some (.int .i64 (zE L i j))) (h0 : J [] W) :
    CallsIn Fence.wide (m + 1) Try.prog 32 #[.func (.yield l0) #[] #[], .pointer (some ⟨Bs, 0, none⟩)] W fun e W' => (∃ v, e = .returned v) ∧
      ((∃ ys, ys = L ∧ J ys W') ∨ (∃ pre, True ∧ Jx pre W')) := by
  have HY := Lib.hid hY
  have HA := Lib.hid hA
  have hJ0 := h0
  have HJA := Lib.hid hJa
  have HC := Lib.hid hcell
  clear hY h0 hJa hA hcell
  refine callsIn_of_wp Try.func32 rfl trivial ?_ rfl
  simp only [Try.ntmps32, List.size_toArray, List.length_cons, List.length_nil, Nat.reduceAdd, Nat.reduceSub, Array.replicate_succ, Array.replicate_zero, List.push_toArray, List.append_toArray, List.nil_append, List.cons_append]
  gi_wp2
  gi_loopw [7] (fun i wr => ∃ p : Nat, i = .int .i64 p ∧ p ≤ L.length ∧ Hid (J (L.take p) wr) ∧ Hid (wr.heap[Bs]? = W.heap[Bs]? ∧ wr.heap[b]? = W.heap[b]?))
    (fun i wr => L.length - (intOf i).toNat)
  case atStart => exact ⟨0, rfl, by omega, Lib.hid hJ0, Lib.hid ⟨rfl, rfl⟩⟩
  case round =>
    clear hJ0
    obtain ⟨p, rfl, hp, HJ, HB⟩ := hrel
    by_cases h : p < L.length
    · obtain rfl := HA.out (by omega)
      have k0 : wr.cell? ⟨b, o + p * 3, none⟩ = some (.int .i64 (zE L p 0)) := (cell_sameV HB.out.2).trans (HC.out p 0 h (by omega))
      have k1 := (cell_sameV HB.out.2).trans (HC.out p 1 h (by omega))
      have k2 := (cell_sameV HB.out.2).trans (HC.out p 2 h (by omega))
      obtain ⟨t, ht⟩ : ∃ x, zE L p 0 = x := ⟨_, rfl⟩
      obtain ⟨k, hk⟩ : ∃ x, zE L p 1 = x := ⟨_, rfl⟩
      obtain ⟨d, hd⟩ : ∃ x, zE L p 2 = x := ⟨_, rfl⟩
      have HT : Hid (L.take (p + 1) = L.take p ++ [(t, k, d)]) := Lib.hid (by rw [List.take_succ_eq_append_getElem h, zE_at h, ht, hk, hd])
      rw [ht] at k0
      rw [hk] at k1
      rw [hd] at k2
      have hbl : b < wr.heap.size := lt_of_cell k0
      have hBl : Bs < wr.heap.size := by
        have e : wr.cell? ⟨Bs, 0, none⟩ = W.cell? ⟨Bs, 0, none⟩ := cell_sameV HB.out.1
        rw [hs] at e; exact lt_of_cell e
      have HBL := Lib.hid hbl; have HBL2 := Lib.hid hBl
      clear ht hk hd hbl hBl
      obtain ⟨fn, tmps, assign, body, hy, hR⟩ := HY.out (L.take p) (t, k, d) (wr.alloc (.cells #[.int .i64 t, .int .i64 k, .int .i64 d] 24)) (HJA.out _ _ _ HJ.out) (by rw [List.length_take]; omega)
      dsimp only [aE] at hy
      have HRR := Lib.hid hR
      clear hR
      gi_wp2
      refine HRR.out.mono ?_
      rintro e3 W3 (⟨rfl, hJ3, hk3⟩ | ⟨rfl, hJx3⟩)
      · have HJ3 : Hid (J (L.take (p + 1)) W3) := Lib.hid (by rw [HT.out]; exact hJ3)
        have HK3 : Hid (W3.heap[Bs]? = W.heap[Bs]? ∧ W3.heap[b]? = W.heap[b]?) := Lib.hid ⟨hk3.1.trans ((((Below.refl wr.heap.size wr).alloc (Nat.le_refl _) _).block Bs HBL2.out).trans HB.out.1), hk3.2.trans ((((Below.refl wr.heap.size wr).alloc (Nat.le_refl _) _).block b HBL.out).trans HB.out.2)⟩
        clear hJ3 hk3 k0 k1 k2
        gi_wp2
        go_roundw
        case rel => exact ⟨p + 1, by go_num, by omega, HJ3, HK3⟩
        case measure => simp [intOf]; omega
      · gi_wp2
        refine bodyPost_ret (results_none rfl _ _ _) rfl ?_
        exact ⟨⟨_, rfl⟩, .inr ⟨_, trivial, hJx3⟩⟩
    · gi_wp2
      go_end0
      exact ⟨⟨_, rfl⟩, .inl ⟨L, rfl, by have := HJ.out; rw [List.take_of_length_le (by omega)] at this; exact this⟩⟩
end Go.Proofs.Ytobeppajomhfjaa
