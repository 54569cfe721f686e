/- Contracts of pulse.Arrivals, Outs and Queue. -/
import Derived.Test.YtmdjncknjbjmbaaRows
import Derived.Test.YtmdjncknjbjmbaaRowKit
import Derived.Test.YtmdjncknjbjmbaaRowS
import Derived.Test.YtmdjncknjbjmbaaRowZ
import Derived.Test.YtmdjncknjbjmbaaSlicesEq
import Derived.Test.YtmdjncknjbjmbaaSlicesEqM
import Derived.Test.YtmdjncknjbjmbaaRowL
import Derived.Test.YtmdjncknjbjmbaaMakeI
import Derived.Test.YtmdjncknjbjmbaaPulseQMath
import Derived.WalkKit
import Derived.IntWalk
import Derived.Lib.Hide
import Derived.WalkSpells
import Derived.WalkLawsBesides
import Derived.Laws.CopyOwn
import Derived.Laws.MakeOwn
import Derived.Laws.OwnMore
import Derived.OwnWalk
import Derived.Deep.QuietTactic
import Derived.Deep.LoopGhost
import Derived.BigQuiet
import Derived.BigRegion
namespace Go.Proofs.Ytmdjncknjbjmbaa
open Go.RowKit
set_option linter.unusedSimpArgs false
set_option linter.unusedVariables false
theorem qvint {k : IntKind} {a b : Int} (h : a = b) : Value.int k a = .int k b := by rw [h]
theorem one_newR2 {w : World} {o : Obj} {v : Value} {t : TypeId} : ∀ (j : Nat) (u : Value), [v][j]? = some u → ((w.alloc o).alloc (.cells #[v] t)).cell? ((⟨w.heap.size + 1, 0, none⟩ : Addr).add j) = some u := by
  intro j u hj
  have := one_newR (w := w.alloc o) (v := v) (t := t) j u hj
  rwa [World.size_alloc] at this
def ARow (z : Nat → Nat → Int) (k : Nat) (v : Value) (w wr : World) : Prop := wr.ownsRow w.heap.size 3 1 v k ((rowL (fun i => z i 1) k).map (Value.int .i64)) ∧ Below w.heap.size w wr
theorem arow_push {z : Nat → Nat → Int} {k : Nat} {v : Value} {w wr : World} (h : wr.ownsRow w.heap.size 3 1 v (k + 1) ((rowL (fun i => z i 1) k).map (Value.int .i64) ++ [.int .i64 (z k 1)])) (hb : Below w.heap.size w wr) : ARow z (k + 1) v w wr :=
  ⟨by rw [rowL_succ, List.map_append]; exact h, hb⟩
def ORow (z : Nat → Nat → Int) (k : Nat) (v : Value) (w wr : World) : Prop := wr.ownsRow w.heap.size 3 1 v (outsV z k).length ((outsV z k).map (Value.int .i64)) ∧ Below w.heap.size w wr
theorem orow_push {z : Nat → Nat → Int} {k : Nat} {L : List Int} {v : Value} {w wr : World} (hL : outsV z k = L) (h6 : 0 ≤ z k 6) (h : wr.ownsRow w.heap.size 3 1 v (L.length + 1) (L.map (Value.int .i64) ++ [.int .i64 (z k 6)])) (hb : Below w.heap.size w wr) : ORow z (k + 1) v w wr :=
  ⟨by rw [outs_yes h6, hL, List.length_append, List.map_append]; exact h, hb⟩
theorem orow_on {z : Nat → Nat → Int} {k : Nat} {v : Value} {w wr : World} (h6 : ¬ 0 ≤ z k 6) (h : ORow z k v w wr) : ORow z (k + 1) v w wr := by
  unfold ORow at *; rw [outs_no h6]; exact h
theorem arr_wf {w : World} {A : Option Addr} {n : Nat} {z : Nat → Nat → Int} (hr : RdZ w 7 A n z) : ∀ i, i < (rowL (fun i => z i 1) n).length → (Lit.int .i64 (zat (rowL (fun i => z i 1) n) i)).wf = true := by
  intro i hi
  rw [rowL_len] at hi
  rw [rowL_at _ hi]
  obtain ⟨_, _, _, hc⟩ := hr i hi
  exact (hc 1 (by omega)).2
theorem outs_wf' {w : World} {A : Option Addr} {n : Nat} {z : Nat → Nat → Int} (hr : RdZ w 7 A n z) : ∀ k, k ≤ n → ∀ x, x ∈ outsV z k → (Lit.int .i64 x).wf = true
  | 0, _, x, hx => by cases hx
  | k + 1, hk, x, hx => by
    by_cases h6 : 0 ≤ z k 6
    · rw [outs_yes h6, List.mem_append] at hx
      rcases hx with hx | hx
      · exact outs_wf' hr k (by omega) x hx
      · obtain ⟨_, _, _, hc⟩ := hr k (by omega)
        rw [List.mem_singleton.1 hx]
        exact (hc 6 (by omega)).2
    · rw [outs_no h6] at hx; exact outs_wf' hr k (by omega) x hx
theorem outs_wf {w : World} {A : Option Addr} {n : Nat} {z : Nat → Nat → Int} (hr : RdZ w 7 A n z) : ∀ i, i < (outsV z n).length → (Lit.int .i64 (zat (outsV z n) i)).wf = true := by
  intro i hi
  refine outs_wf' hr n (Nat.le_refl _) _ ?_
  unfold zat
  rw [List.getD_eq_getElem?_getD, List.getElem?_eq_getElem hi]
  simp
set_option maxRecDepth 100000 in
set_option maxHeartbeats 2000000 in
theorem arrivals_any (A : Option Addr) (c n : Nat) (z : Nat → Nat → Int) (w : World) (hr : RdZ w 7 A n z) (hn : n ≤ 1000) :
    Calls Try.prog 30 #[.slice A n c] w (MadeS n (rowL (fun i => z i 1) n) w) := by
  obtain ⟨i0, hi, hz0, hz1, hz2⟩ := info_parts mkInfo
  go_enter Try.func30, Try.ntmps30
  go_wp2_with (at_make; refine wpList_make_own _ rfl _ _ 34 rfl w.heap.size 3 i0 (.int .i64 0) 1 Try.underlying34 hi hz0 hz1 _ _ _ n rfl rfl (by omega) (by rw [hz2]; omega) (by unfold maxLen; omega) (Nat.le_refl _) ?_; intro w0 hown0 hgrow0)
  have hb0 : Below w.heap.size w w0 := (Below.refl _ _).grown hgrow0 (Nat.le_refl _) (fun k h => by cases h)
  have HS : ARow z 0 (.slice (some ⟨w.heap.size, 0, none⟩) 0 n) w w0 := ⟨hown0, hb0⟩
  clear hgrow0 hown0 hb0
  go_wp2_with fail
  go_loopw [3, 11] (fun v i wr => ∃ k : Nat, k ≤ n ∧ i = .int .i64 k ∧ ARow z k v w wr) (fun _ i _ => n - (intOf i).toNat)
  case atStart => exact ⟨0, by omega, rfl, HS⟩
  case round =>
    obtain ⟨k, hk, rfl, hown, hb⟩ := hrel
    obtain ⟨vA, vc, hv⟩ := mkSlice hown
    subst hv
    by_cases h : k < n
    · skip
      obtain ⟨b, off, rfl, hlt, hc⟩ := rdZ_row (hr.kept hb) (by omega) (by omega)
      have c0 : wr.cell? ⟨b, off + k * 7, none⟩ = _ := hc k 0 h (by omega)
      have c1 := hc k 1 h (by omega)
      have c2 := hc k 2 h (by omega)
      have c3 := hc k 3 h (by omega)
      have c4 := hc k 4 h (by omega)
      have c5 := hc k 5 h (by omega)
      have c6 := hc k 6 h (by omega)
      clear hc
      have B1 := Lib.hid (hb.alloc hb.size (.cells #[.int .i64 (z k 0), .int .i64 (z k 1), .int .i64 (z k 2), .int .i64 (z k 3), .int .i64 (z k 4), .int .i64 (z k 5), .int .i64 (z k 6)] 45))
      go_wp2_with (at_builtin; refine wpList_append_own _ rfl _ _ 34 rfl w.heap.size 3 i0 (.int .i64 0) 1 8 Try.underlying34 hi hz0 hz1 hz2 rfl (by decide) _ _ _ rfl ((hown.alloc _).alloc _) ⟨_, 0, none⟩ 1 1 [.int .i64 (z k 1)] rfl rfl one_newR2 (by intro u hu; simp at hu; subst hu; rfl) (by unfold maxLen; omega) (by omega) (by have := hb.size; simp; omega) ?_; intro v' w1 hown' hgrow _)
      have hb1 : Below w.heap.size w w1 := by
        refine (B1.out.alloc B1.out.size _).grown hgrow (by have := hb.size; simp; omega) (fun g hg => ?_)
        first | exact ownR_ge hown hg | exact ownR_ge hown hg.symm
      have HR := arow_push hown' hb1
      clear hown' hgrow
      go_wp2_with fail
      go_roundw
      case rel => exact ⟨k + 1, by omega, by go_num, HR⟩
      case measure => simp [intOf]; omega
    · obtain rfl : k = n := by omega
      obtain ⟨B, cc, hv, hR⟩ := ownR_rd (ownR_len hown (rowL_len _ _)) (arr_wf hr)
      rw [rowL_len] at hv
      cases hv
      go_wp2_with fail
      go_ret
      exact ⟨_, _, rfl, hR, hb⟩
set_option maxRecDepth 100000 in
set_option maxHeartbeats 2000000 in
theorem outs_any (A : Option Addr) (c n : Nat) (z : Nat → Nat → Int) (w : World) (hr : RdZ w 7 A n z) (hn : n ≤ 1000) :
    Calls Try.prog 31 #[.slice A n c] w (MadeS (outsV z n).length (outsV z n) w) := by
  obtain ⟨i0, hi, hz0, hz1, hz2⟩ := info_parts mkInfo
  go_enter Try.func31, Try.ntmps31
  go_wp2_with fail
  go_loopw [3, 8] (fun v i wr => ∃ k : Nat, k ≤ n ∧ i = .int .i64 k ∧ ORow z k v w wr) (fun _ i _ => n - (intOf i).toNat)
  case atStart => exact ⟨0, by omega, rfl, World.ownsRow_nil _ _ _ _, Below.refl _ _⟩
  case round =>
    obtain ⟨k, hk, rfl, hown, hb⟩ := hrel
    obtain ⟨vA, vc, hv⟩ := mkSlice hown
    subst hv
    by_cases h : k < n
    · skip
      obtain ⟨b, off, rfl, hlt, hc⟩ := rdZ_row (hr.kept hb) (by omega) (by omega)
      have c0 : wr.cell? ⟨b, off + k * 7, none⟩ = _ := hc k 0 h (by omega)
      have c1 := hc k 1 h (by omega)
      have c2 := hc k 2 h (by omega)
      have c3 := hc k 3 h (by omega)
      have c4 := hc k 4 h (by omega)
      have c5 := hc k 5 h (by omega)
      have c6 := hc k 6 h (by omega)
      clear hc
      have B1 := Lib.hid (hb.alloc hb.size (.cells #[.int .i64 (z k 0), .int .i64 (z k 1), .int .i64 (z k 2), .int .i64 (z k 3), .int .i64 (z k 4), .int .i64 (z k 5), .int .i64 (z k 6)] 45))
      have hLl := outs_len z k
      by_cases h6 : 0 ≤ z k 6
      · obtain ⟨L, hL⟩ : ∃ L, outsV z k = L := ⟨_, rfl⟩
        rw [hL] at hLl hown ⊢
        have HL := Lib.hid hL
        have HF : Hid (∀ v w1, _ → Below w.heap.size w w1 → ORow z (k + 1) v w w1) := Lib.hid (fun v w1 h hb => orow_push (v := v) HL.out h6 h hb)
        obtain ⟨x, hx⟩ : ∃ x, z k 6 = x := ⟨_, rfl⟩
        rw [hx] at h6 c6 HF
        rw [hx] at B1
        clear hL hx
        go_wp2_with (at_builtin; refine wpList_append_own _ rfl _ _ 34 rfl w.heap.size 3 i0 (.int .i64 0) 1 8 Try.underlying34 hi hz0 hz1 hz2 rfl (by decide) _ _ _ rfl ((hown.alloc _).alloc _) ⟨_, 0, none⟩ 1 1 [.int .i64 x] rfl rfl one_newR2 (by intro u hu; simp at hu; subst hu; rfl) (by unfold maxLen; omega) (by omega) (by have := hb.size; simp; omega) ?_; intro v' w1 hown' hgrow _)
        have hb1 : Below w.heap.size w w1 := by
          refine (B1.out.alloc B1.out.size _).grown hgrow (by have := hb.size; simp; omega) (fun g hg => ?_)
          first | exact ownR_ge hown hg | exact ownR_ge hown hg.symm
        have HR := HF.out _ _ hown' hb1
        clear hown' hgrow
        go_wp2_with fail
        go_roundw
        case rel => exact ⟨k + 1, by omega, by go_num, HR⟩
        case measure => simp [intOf]; omega
      · have HF : Hid (ORow z (k + 1) (.slice vA (outsV z k).length vc) w (wr.alloc (.cells #[.int .i64 (z k 0), .int .i64 (z k 1), .int .i64 (z k 2), .int .i64 (z k 3), .int .i64 (z k 4), .int .i64 (z k 5), .int .i64 (z k 6)] 45))) := Lib.hid (orow_on h6 ⟨hown.alloc _, B1.out⟩)
        go_wp2_with fail
        go_roundw
        case rel => exact ⟨k + 1, by omega, by go_num, HF.out⟩
        case measure => simp [intOf]; omega
    · obtain rfl : k = n := by omega
      obtain ⟨B, cc, hv, hR⟩ := ownR_rd hown (outs_wf hr)
      cases hv
      go_wp2_with fail
      go_ret
      exact ⟨_, _, rfl, hR, hb⟩
end Go.Proofs.Ytmdjncknjbjmbaa
