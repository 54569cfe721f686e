/- Contracts of the document's scale, row and swap of layer 69. -/
import Derived.Test.YteebeiflipfbkaaRows
import Derived.Test.YteebeiflipfbkaaRowKit
import Derived.Test.YteebeiflipfbkaaSlicesEq
import Derived.Test.YteebeiflipfbkaaSlicesEqM
import Derived.Test.YteebeiflipfbkaaRowL
import Derived.Test.YteebeiflipfbkaaMakeI
import Derived.Test.YteebeiflipfbkaaBlocks
import Derived.Test.YteebeiflipfbkaaShufA
import Derived.WalkKit
import Derived.Deep.WholeRow
import Derived.IntWalk
import Derived.Lib.Hide
import Derived.WalkSpells
import Derived.WalkLawsBesides
import Derived.Laws.CopyOwn
import Derived.Laws.MakeOwn
import Derived.Laws.OwnMore
import Derived.OwnWalk
import Derived.Deep.QuietTactic
import Derived.Deep.LoopGhost
import Derived.BigQuiet
import Derived.BigRegion
namespace Go.Proofs.Yteebeiflipfbkaa
open Go.RowKit
set_option linter.unusedSimpArgs false
set_option linter.unusedVariables false
theorem sc_bd {v d : Int} (hv : 0 ≤ v) (hv' : v ≤ 4294967295) (hd : 0 ≤ d) (hd' : d ≤ 65536) : 0 ≤ v * d ∧ v * d ≤ 281474976645120 :=
  ⟨Int.mul_nonneg hv hd, Int.le_trans (Int.mul_le_mul hv' hd' hd (by omega)) (by omega)⟩
set_option maxHeartbeats 1000000 in
theorem rscale_any (v d : Int) (w : World) (hv : 0 ≤ v) (hv' : v ≤ 4294967295) (hd : 0 ≤ d) (hd' : d ≤ 65536) :
    Calls Try.prog 87 #[.int .u32 v, .int .i64 d] w fun e w' => e = .returned (.int .i64 (v * d / 4294967296)) ∧ w = w' := by
  obtain ⟨b0, b1⟩ := sc_bd hv hv' hd hd'
  have q0 : 0 ≤ v * d / 4294967296 := Int.ediv_nonneg b0 (by omega)
  have q1 : v * d / 4294967296 ≤ 65535 := by omega
  have E := Lib.hid (show v * d / 4294967296 = v * d / 4294967296 from rfl)
  go_enter Try.func87, Try.ntmps87
  go_wp2_with fail
  go_ret
  exact ⟨rfl, rfl⟩
/-- a row that the call made, with its room -/
def MadeC (n : Nat) (ys : List Int) (w : World) (e : Ending) (w' : World) : Prop := ∃ A c, e = .returned (.slice A n c) ∧ n ≤ c ∧ RdI w' .i64 A ys ∧ Below w.heap.size w w'
theorem own_cap {w : World} {base : Nat} {e : TypeId} {A : Option Addr} {n c : Nat} {xs : List Value} (h : w.ownsRow base e 1 (.slice A n c) n xs) : n ≤ c := by
  rcases h.2 with ⟨_, h0⟩ | ⟨g, cap, cur, hv, _, _, hnc, _⟩
  · omega
  · cases hv; exact hnc
/-- the loop's relation -/
def RRow (k : Nat) (v : Value) (w wr : World) : Prop := wr.ownsRow w.heap.size 3 1 v k ((rowL (fun i => (i : Int)) k).map (Value.int .i64)) ∧ Below w.heap.size w wr
theorem id_wf (n : Nat) (hn : n ≤ 65536) : ∀ i, i < (rowL (fun i => (i : Int)) n).length → (Lit.int .i64 (zat (rowL (fun i => (i : Int)) n) i)).wf = true := by
  intro i hi
  rw [rowL_len] at hi
  rw [rowL_at _ hi]
  exact WalkArith.wf_i64 (by omega)
set_option maxRecDepth 100000 in
set_option maxHeartbeats 2000000 in
theorem rrow_any (n : Nat) (w : World) (hn : n ≤ 65536) :
    Calls Try.prog 85 #[.int .i64 n] w (MadeC n (rowL (fun i => (i : Int)) n) w) := by
  obtain ⟨i0, hi, hz0, hz1, hz2⟩ := info_parts mkInfo
  go_enter Try.func85, Try.ntmps85
  go_wp2_with fail
  go_loopg [3, 4] n (fun g v i wr => ∃ k : Nat, k ≤ n ∧ g = n - k ∧ i = .int .i64 k ∧ RRow k v w wr)
  case atStart => exact ⟨0, by omega, rfl, rfl, World.ownsRow_nil _ _ _ _, Below.refl _ _⟩
  case round =>
    obtain ⟨k, hk, rfl, rfl, hown, hb⟩ := hrel
    obtain ⟨vA, vc, hv⟩ := mkSlice hown
    subst hv
    by_cases h : k < n
    · go_wp2_with (at_builtin; refine wpList_append_own _ rfl _ _ 23 rfl w.heap.size 3 i0 (.int .i64 0) 1 8 Try.underlying23 hi hz0 hz1 hz2 rfl (by decide) _ _ _ rfl (hown.alloc _) ⟨_, 0, none⟩ 1 1 [.int .i64 (k : Int)] rfl rfl one_newR (by intro u hu; simp at hu; subst hu; rfl) (by unfold maxLen; omega) (by omega) (by have := hb.size; simp; omega) ?_; intro v' w1 hown' hgrow _)
      have hb1 : Below w.heap.size w w1 := by
        refine (hb.alloc hb.size _).grown hgrow (by have := hb.size; simp; omega) (fun g hg => ?_)
        first | exact ownR_ge hown hg | exact ownR_ge hown hg.symm
      have HR : RRow (k + 1) v' w w1 := ⟨by rw [rowL_succ, List.map_append]; exact hown', hb1⟩
      clear hown' hgrow
      go_wp2_with fail
      go_roundg (n - (k + 1))
      case measure => omega
      case rel => exact ⟨k + 1, by omega, rfl, by go_num, HR⟩
    · obtain rfl : k = n := by omega
      obtain ⟨B, cc, hv, hR⟩ := ownR_rd (ownR_len hown (rowL_len _ _)) (id_wf k hn)
      rw [rowL_len] at hv
      cases hv
      have hcap := own_cap hown
      go_wp2_with fail
      go_ret
      exact ⟨_, _, rfl, hcap, hR, hb⟩
/-- two places changed -/
def swF (f : Nat → Int) (i k j : Nat) : Int := if j = k then f i else if j = i then f k else f j
theorem own_empty (w : World) (e : TypeId) : (w.alloc (.cells #[] e)).ownsRow w.heap.size e 1 (.slice (some ⟨w.heap.size, 0, none⟩) 0 0) 0 [] :=
  ⟨rfl, .inr ⟨w.heap.size, 0, #[], rfl, Nat.le_refl _, heap_alloc_last w _, Nat.le_refl _, Nat.zero_le _, rfl, rfl⟩⟩
theorem map_zat (zs : List Int) : zs.map (Value.int .i64) = (rowL (zat zs) zs.length).map (Value.int .i64) := by
  congr 1
  apply List.ext_getElem
  · rw [rowL_len]
  · intro i h1 h2
    simp only [rowL, List.getElem_map, List.getElem_range]
    unfold zat
    rw [List.getD_eq_getElem?_getD, List.getElem?_eq_getElem h1]
    rfl
theorem sw_wf {zs : List Int} (hw : ∀ i, i < zs.length → (Lit.int .i64 (zat zs i)).wf = true) {i k : Nat} (hi : i < zs.length) (hk : k < zs.length) : ∀ j, j < (rowL (swF (zat zs) i k) zs.length).length → (Lit.int .i64 (zat (rowL (swF (zat zs) i k) zs.length) j)).wf = true := by
  intro j hj
  rw [rowL_len] at hj
  rw [rowL_at _ hj]
  unfold swF
  split
  · exact hw i hi
  · split
    · exact hw k hk
    · exact hw j hj
theorem src_cells {w : World} {b off : Nat} {zs : List Int} {o : Obj} (hc : ∀ i, i < zs.length → w.cell? ⟨b, off + i, none⟩ = some (.int .i64 (zat zs i))) (hlt : b < w.heap.size) : ∀ (j : Nat) (u : Value), (zs.map (Value.int .i64))[j]? = some u → (w.alloc o).cell? ((⟨b, off, none⟩ : Addr).add j) = some u := by
  intro j u hj
  have hjl : j < zs.length := by
    rcases Nat.lt_or_ge j zs.length with h | h
    · exact h
    · rw [List.getElem?_eq_none (by simpa using h)] at hj; cases hj
  rw [List.getElem?_map, zat_get hjl] at hj
  simp at hj
  subst hj
  rw [World.cell?_alloc_lt _ _ _ (by rw [block_add]; exact hlt)]
  have := hc j hjl
  by_cases h0 : j = 0
  · subst h0; simpa [Addr.add] using this
  · simpa [Addr.add, h0] using this
set_option maxRecDepth 100000 in
set_option maxHeartbeats 4000000 in
theorem rswap_any (b off c : Nat) (zs : List Int) (i k : Nat) (w : World) (hr : RdI w .i64 (some ⟨b, off, none⟩) zs) (hl : zs.length ≤ 65536) (hi : i < zs.length) (hk : k < zs.length) :
    Calls Try.prog 86 #[.slice (some ⟨b, off, none⟩) zs.length c, .int .i64 i, .int .i64 k] w (MadeC zs.length (rowL (swF (zat zs) i k) zs.length) w) := by
  obtain ⟨i0, hinf, hz0, hz1, hz2⟩ := info_parts mkInfo
  obtain ⟨b', o', e', hlt, hc⟩ := rdI_row hr (by omega)
  cases e'
  have HC := Lib.hid hc
  have WF := Lib.hid (fun i hi => by obtain ⟨_, _, _, _, hw⟩ := hr i hi; exact hw : ∀ i, i < zs.length → (Lit.int .i64 (zat zs i)).wf = true)
  have hiI : (i : Int) < zs.length := by omega
  have hkI : (k : Int) < zs.length := by omega
  clear hr hc
  go_enter Try.func86, Try.ntmps86
  go_wp2_with (at_builtin; refine wpList_append_own _ rfl _ _ 23 rfl w.heap.size 3 i0 (.int .i64 0) 1 8 Try.underlying23 hinf hz0 hz1 hz2 rfl (by decide) _ _ _ rfl (own_empty w 3) ⟨b, off, none⟩ zs.length c (zs.map (Value.int .i64)) rfl (by simp) (src_cells HC.out hlt) (by intro u hu; simp at hu; obtain ⟨_, _, rfl⟩ := hu; rfl) (by unfold maxLen; omega) (by omega) (by simp) ?_; intro v' w1 hown' hgrow _)
  rw [List.nil_append, Nat.zero_add] at hown'
  rw [map_zat] at hown'
  have hb1 : Below w.heap.size w w1 := ((Below.refl w.heap.size w).alloc (Nat.le_refl _) _).grown hgrow (by simp) (fun g hg => by first | (cases hg; exact Nat.le_refl _) | (cases hg.symm; exact Nat.le_refl _))
  obtain ⟨g, cap, hv, hg, hcap⟩ := ownR_head hown' (by omega)
  subst hv
  have gb : g ≠ b := by omega
  have f1 := hown'.frozenAt i
  have f2 := hown'.frozenAt k
  have c1 := ownR_cell hown' hi
  have c2 := ownR_cell hown' hk
  have l1 := (hb1.cell (p := ⟨b, off + i, none⟩) hlt).trans (HC.out i hi)
  have l2 := (hb1.cell (p := ⟨b, off + k, none⟩) hlt).trans (HC.out k hk)
  have bg : b ≠ g := by omega
  have l2' : ∀ u, (w1.setCell ⟨g, i, none⟩ u).cell? ⟨b, off + i, none⟩ = some (.int .i64 (zat zs i)) := fun u => by rw [World.cell?_of_block (Below.heap_setCell _ _ _ b bg)]; exact l1
  have HW := Lib.hid (WF.out)
  have RES : Hid (∀ u v, u = zat zs k → v = zat zs i → ((w1.setCell ⟨g, i, none⟩ (.int .i64 u)).setCell ⟨g, k, none⟩ (.int .i64 v)).ownsRow w.heap.size 3 1 (.slice (some ⟨g, 0, none⟩) zs.length cap) zs.length ((rowL (swF (zat zs) i k) zs.length).map (Value.int .i64)) ∧ Below w.heap.size w ((w1.setCell ⟨g, i, none⟩ (.int .i64 u)).setCell ⟨g, k, none⟩ (.int .i64 v))) := Lib.hid fun u v hu hv => by
    subst hu; subst hv
    refine ⟨mkRow_put (mkRow_put hown' (rowL_set _ _ _ _)) ?_, (hb1.setCell hg _).setCell hg _⟩
    rw [rowL_set]
    exact rowL_congr fun j _ => by
      show (if j = k then zat zs i else if j = i then zat zs k else zat zs j) = swF (zat zs) i k j
      rfl
  have hown2 := mkRow_put (j := i) (u := zat zs k) hown' (rowL_set _ _ _ _)
  obtain ⟨t, c3⟩ : ∃ t, (w1.setCell ⟨g, i, none⟩ (.int .i64 (zat zs k))).cell? ⟨g, k, none⟩ = some (.int .i64 t) := ⟨_, ownR_cell hown2 hk⟩
  have f3 := hown2.frozenAt k
  clear hown2
  obtain ⟨x, hx⟩ : ∃ x, zat zs i = x := ⟨_, rfl⟩
  obtain ⟨y, hy⟩ : ∃ y, zat zs k = y := ⟨_, rfl⟩
  rw [hx] at RES c1 l1 l2'
  rw [hy] at RES c2 l2 c3 f3
  clear hx hy hown' hgrow hb1
  go_wp2_with fail
  go_region
  go_wp2_with fail
  go_ret
  obtain ⟨o2, b2⟩ := RES.out y x rfl rfl
  obtain ⟨B, cc, hv, hR⟩ := ownR_rd (ownR_len o2 (rowL_len _ _)) (sw_wf HW.out hi hk)
  rw [rowL_len] at hv
  cases hv
  exact ⟨_, _, rfl, own_cap o2, hR, b2.drew⟩
end Go.Proofs.Yteebeiflipfbkaa
