/- Columns: the document's widths. -/
import Derived.Test.YtkonghjmipclmaaDoorRows
import Derived.Test.YtkonghjmipclmaaDoorRowKit
import Derived.Test.YtkonghjmipclmaaDoorShelf
import Derived.Test.YtkonghjmipclmaaDoorBlocks
import Derived.Test.YtkonghjmipclmaaDoorSlicesEq
import Derived.Test.YtkonghjmipclmaaDoorRowT
import Derived.Test.YtkonghjmipclmaaDoorDigE
import Derived.Test.YtkonghjmipclmaaDoorBuA
import Derived.Test.YtkonghjmipclmaaDoorColM
import Derived.Test.YtkonghjmipclmaaDoorRowL
import Derived.Test.YtkonghjmipclmaaDoorColG
import Derived.Test.YtkonghjmipclmaaDoorColW
import Derived.Test.YtkonghjmipclmaaDoorColJ
import Derived.Laws.MakeOwn
import Derived.WalkKit
import Derived.IntWalk
import Derived.Lib.Hide
import Derived.WalkSpells
import Derived.WalkLawsBesides
import Derived.Laws.IdiomStrings
import Derived.Laws.OwnMore
import Derived.OwnWalk
import Derived.Deep.QuietTactic
import Derived.BigQuiet
import Derived.BigRegion
import Derived.Deep.LoopGhost
namespace Go.Proofs.YtkonghjmipclmaaDoor
open Go.RowKit Go.Sort
set_option linter.unusedSimpArgs false
set_option linter.unusedVariables false
theorem wid_add {B m : Nat} {wr : World} {v : Value} {z : Nat → Int} {x : Int} (h : wr.ownsRow B 3 1 v (m + 1) ((rowL z m).map (Value.int .i64) ++ [.int .i64 x])) (hx : z m = x) : WidR B wr v (m + 1, z) := by
  unfold WidR
  show wr.ownsRow B 3 1 v (m + 1) ((rowL z (m + 1)).map (Value.int .i64))
  rw [rowL_succ, List.map_append, hx]
  exact h
set_option maxRecDepth 100000 in
set_option maxHeartbeats 20000000 in
theorem dwidths_any (Ro : Option Addr) (cr N : Nat) (A : Nat → Option Addr) (n c : Nat → Nat) (tb : Nat → Nat → ByteArray) (w : World) (hr : RdTT w Ro N A n c tb) (hN : N ≤ 1000) (hn : ∀ i, i < N → n i ≤ 1000) (hs : ∀ i, i < N → ∀ j, j < n i → (tb i j).size ≤ 1000) :
    Calls Tryd.prog 9 #[.slice Ro N cr] w fun e w' => ∃ v, e = .returned v ∧ WidR w.heap.size w' v (wdCols n tb N) ∧ Below w.heap.size w w' := by
  obtain ⟨i0, hi, hz0, hz1, hz2⟩ := info_parts coliInfo
  have HR := Lib.hid hr; have HN := Lib.hid hn; have HS := Lib.hid hs
  have hM := wdCols_len (n := n) (tb := tb) (m := 1000) N (fun i hi => hn i hi)
  obtain ⟨B, hB⟩ : ∃ B, w.heap.size = B := ⟨_, rfl⟩
  have HBB := Lib.hid hB
  have HSM : Hid (∀ v wr, WidR B wr v ((wdCols n tb N).1, fun k => cmx n tb k N) → WidR B wr v (wdCols n tb N)) := Lib.hid (fun v wr h => by
    unfold WidR at h ⊢
    rw [← wdCols_same]; exact h)
  have HCS := Lib.hid (fun k => csm_iff n tb k N)
  obtain ⟨R, hR⟩ : ∃ R : Ending → World → Prop, (fun (e : Ending) (w' : World) => ∃ v, e = .returned v ∧ WidR B w' v (wdCols n tb N) ∧ Below B w w') = R := ⟨_, rfl⟩
  rw [hB]
  have HRR := Lib.hid hR
  rw [hR]
  obtain ⟨M, hM2⟩ : ∃ M, (wdCols n tb N).1 = M := ⟨_, rfl⟩
  rw [hM2] at hM HSM HCS
  have E0 : Hid (Below B w w) := Lib.hid (Below.refl _ _)
  clear hr hn hs hR hB hM2
  go_enter Tryd.func9, Tryd.ntmps9
  go_wp2_with fail
  go_loopg [3, 4] (M + 1) (fun gh v kv wr => ∃ k : Nat, k ≤ M ∧ gh = M + 1 - k ∧ kv = .int .i64 k ∧ Hid (WidR B wr v (k, fun i => cmx n tb i N)) ∧ Hid (Below B w wr))
  case atStart => exact ⟨0, by omega, rfl, rfl, Lib.hid (World.ownsRow_nil ..), E0⟩
  case round =>
    clear E0
    obtain ⟨k, hk, rfl, rfl, HW, EE⟩ := hrel
    rename World => V
    go_wp2_with fail
    go_loopg [5, 6, 7] N (fun gh mv sv iv wr => ∃ (i : Nat) (x : Int) (b : Bool), i ≤ N ∧ gh = N - i ∧ iv = .int .i64 i ∧ mv = .int .i64 x ∧ sv = .bool b ∧ Hid (x = cmx n tb k i) ∧ Hid (b = csm n k i) ∧ V = wr)
    case atStart => exact ⟨0, 0, false, by omega, rfl, rfl, rfl, rfl, Lib.hid rfl, Lib.hid rfl, rfl⟩
    case round =>
      obtain ⟨i, x, b, hi2, rfl, rfl, rfl, rfl, HX, HB, rfl⟩ := hrel
      by_cases hiN : i < N
      · have hii : (i : Int) < (N : Int) := by omega
        obtain ⟨ro, oo, rfl, hb, c00, hl, ht⟩ := HR.out i hiN
        have c0 := (EE.out.cell (p := ⟨ro, oo + i, none⟩) (by rw [← HBB.out]; exact hb)).trans c00
        have HT := Lib.hid ht
        have hn1 := HN.out i hiN
        have HSK := Lib.hid (HS.out i hiN)
        have HNX : Hid (cmx n tb k (i + 1) = if k < n i then max (cmx n tb k i) ((tb i k).size : Int) else cmx n tb k i) := Lib.hid rfl
        have HNB : Hid (csm n k (i + 1) = if k < n i then true else csm n k i) := Lib.hid rfl
        rw [← HX.out] at HNX
        rw [← HB.out] at HNB
        obtain ⟨m, hm⟩ : ∃ m, n i = m := ⟨_, rfl⟩
        obtain ⟨ck, hck⟩ : ∃ ck, c i = ck := ⟨_, rfl⟩
        obtain ⟨Ak, hA⟩ : ∃ Ak, A i = Ak := ⟨_, rfl⟩
        obtain ⟨t, htb⟩ : ∃ t, tb i = t := ⟨_, rfl⟩
        rw [htb, hm] at HSK
        rw [hA, hm, htb] at HT
        rw [hm, htb] at HNX
        rw [hm] at hn1 hl HNB
        rw [hm, hck, hA] at c0
        clear hm hck hA htb ht hb c00 hl
        by_cases hkm : k < m
        · have hki : (k : Int) < (m : Int) := by omega
          obtain ⟨ba, oa, rfl, hlt, hca⟩ := rdT_row HT.out (by omega)
          have c1 := (EE.out.cell (p := ⟨ba, oa + k, none⟩) (by rw [← HBB.out]; exact hlt)).trans (hca k hkm)
          have hsz := HSK.out k hkm
          replace HNX : Hid (cmx n tb k (i + 1) = max x ((t k).size : Int)) := Lib.hid (by rw [HNX.out, if_pos hkm])
          replace HNB : Hid (csm n k (i + 1) = true) := Lib.hid (by rw [HNB.out, if_pos hkm])
          obtain ⟨s, hs⟩ : ∃ s, t k = s := ⟨_, rfl⟩
          rw [hs] at c1 hsz HNX
          clear hs hca hlt
          by_cases hmx : x < (s.size : Int)
          · replace HNX : Hid ((s.size : Int) = cmx n tb k (i + 1)) := Lib.hid (by rw [HNX.out]; omega)
            go_wp2_with fail
            go_roundg (N - (i + 1))
            case measure => omega
            case rel => exact ⟨i + 1, _, _, by omega, rfl, by go_num, rfl, rfl, HNX, Lib.hid HNB.out.symm, rfl⟩
          · replace HNX : Hid (x = cmx n tb k (i + 1)) := Lib.hid (by rw [HNX.out]; omega)
            go_wp2_with fail
            go_roundg (N - (i + 1))
            case measure => omega
            case rel => exact ⟨i + 1, _, _, by omega, rfl, by go_num, rfl, rfl, HNX, Lib.hid HNB.out.symm, rfl⟩
        · have hki : ¬ (k : Int) < (m : Int) := by omega
          replace HNX : Hid (x = cmx n tb k (i + 1)) := Lib.hid (by rw [HNX.out, if_neg hkm])
          replace HNB : Hid (b = csm n k (i + 1)) := Lib.hid (by rw [HNB.out, if_neg hkm])
          go_wp2_with fail
          go_roundg (N - (i + 1))
          case measure => omega
          case rel => exact ⟨i + 1, _, _, by omega, rfl, by go_num, rfl, rfl, HNX, HNB, rfl⟩
      · obtain rfl : i = N := by omega
        by_cases hkM : k < M
        · obtain rfl : b = true := by rw [HB.out, HCS.out, decide_eq_true hkM]
          have hsX : B ≤ V.heap.size := by have := EE.out.size; have := HBB.out; omega
          obtain ⟨vA, vc, hv⟩ : ∃ (a : Option Addr) (cap : Nat), u3 = .slice a k cap := by
            rcases HW.out.2 with ⟨e, h0⟩ | ⟨g, cap, _, e, _⟩
            · have h0' : k = 0 := h0
              exact ⟨none, 0, by rw [h0']; exact e⟩
            · exact ⟨_, cap, e⟩
          subst hv
          have HOW : V.ownsRow B 3 1 (.slice vA k vc) k ((rowL (fun j => cmx n tb j i) k).map (Value.int .i64)) := HW.out
          go_wp2_with (at_builtin; go_loud (refine wpList_append_own _ rfl _ _ 25 rfl B 3 i0 (.int .i64 0) 1 8 Tryd.underlying25 hi hz0 hz1 hz2 rfl (by decide) _ _ _ rfl (HOW.alloc _) ⟨_, 0, none⟩ 1 1 [.int .i64 x] rfl rfl one_newR (by intro u hu; simp at hu; subst hu; rfl) (by unfold maxLen; omega) (by omega) (by simp; omega) ?_; intro v' w1 hown' hgrow _))
          have HW1 := Lib.hid (wid_add hown' HX.out.symm)
          have E1 := Lib.hid ((EE.out.alloc hsX _).grown hgrow (by simp; omega) (fun g hg => by
            first | exact ownR_ge HW.out hg | exact ownR_ge HW.out hg.symm))
          clear hown' hgrow HW EE HOW
          go_wp2_with fail
          go_roundg (M + 1 - (k + 1))
          case measure => omega
          case rel => exact ⟨k + 1, by omega, rfl, by go_num, HW1, E1⟩
        · obtain rfl : b = false := by rw [HB.out, HCS.out, decide_eq_false hkM]
          obtain rfl : k = M := by omega
          have HW1 := Lib.hid (HSM.out _ _ HW.out)
          go_wp2_with fail
          rw [← HRR.out]
          exact ⟨_, rfl, HW1.out, EE.out⟩
end Go.Proofs.YtkonghjmipclmaaDoor
