/- Contracts of cumul.Weights, Table and of the document's Weights. -/
import Derived.Test.YtkepplkfjcoemabRows
import Derived.Test.YtkepplkfjcoemabRowKit
import Derived.Test.YtkepplkfjcoemabSlicesEq
import Derived.Test.YtkepplkfjcoemabRowL
import Derived.Test.YtkepplkfjcoemabCumulMath
import Derived.WalkKit
import Derived.IntWalk
import Derived.Lib.Hide
import Derived.WalkSpells
import Derived.WalkLawsBesides
import Derived.Laws.CopyOwn
import Derived.Laws.MakeOwn
import Derived.Laws.OwnMore
import Derived.Deep.QuietTactic
import Derived.BigQuiet
namespace Go.Proofs.Ytkepplkfjcoemab
open Go.RowKit
set_option linter.unusedSimpArgs false
set_option linter.unusedVariables false
theorem info64 : (Try.prog.info? 31).map (fun i => (i.zero, i.size, i.bytes)) = some (some (.int .u64 0), 1, 8) := by kernel_rfl
/-- the weights, one behind the other -/
def wkI (r : Nat) (i : Nat) : Int := (wk 67108864 r i : Nat)
/-- the first ones together -/
def smI (r : Nat) (i : Nat) : Int := (sm 67108864 r (i + 1) : Nat)
/-- the table's places -/
def tbI (r n : Nat) (i : Nat) : Int := (tbv 4294967296 67108864 r n i : Nat)
/-- a row that the call made, and no error -/
def MadeR (e : TypeId) (ys : List Int) (w : World) (x : Ending) (w' : World) : Prop := ∃ v, x = .returned (.tuple #[v, .int .i64 0]) ∧ w'.ownsRow w.heap.size e 1 v ys.length (ys.map (Value.int .u64)) ∧ Below w.heap.size w w'
def MadeS (e : TypeId) (ys : List Int) (w : World) (x : Ending) (w' : World) : Prop := ∃ v, x = .returned v ∧ w'.ownsRow w.heap.size e 1 v ys.length (ys.map (Value.int .u64)) ∧ Below w.heap.size w w'
set_option maxHeartbeats 1000000 in
theorem weights_no (r : Int) (w : World) (h : r < 0 ∨ 4000 < r) :
    Calls Try.prog 22 #[.int .i64 r] w fun e w' => e = .returned (.tuple #[.slice none 0 0, .int .i64 22]) ∧ w = w' := by
  by_cases h0 : r < 0
  · clear h
    go_enter Try.func22, Try.ntmps22
    go_wp2_with fail
    go_ret2
    exact ⟨rfl, rfl⟩
  · have h1 : 4000 < r := by omega
    clear h
    go_enter Try.func22, Try.ntmps22
    go_wp2_with fail
    go_ret2
    exact ⟨rfl, rfl⟩
theorem wk_step (r k : Nat) : wkI r (k + 1) = wkI r k * r / (1000 * ((k : Int) + 1)) := by
  unfold wkI; rw [wk_succ, Int.natCast_ediv, Int.natCast_mul, Int.natCast_mul, Int.natCast_add]; rfl
theorem wk_prod {r : Nat} (hr : r ≤ 4000) {v : Int} (h0 : 0 ≤ v) (h1 : v < 4294967296) : 0 ≤ v * r ∧ v * r ≤ 17179869184000 := by
  refine ⟨Int.mul_nonneg h0 (by omega), ?_⟩
  have := Int.mul_le_mul (show v ≤ 4294967296 by omega) (show (r : Int) ≤ 4000 by omega) (by omega) (by omega)
  omega
set_option maxRecDepth 100000 in
set_option maxHeartbeats 1000000 in
theorem weights_any (r n : Nat) (w : World) (hr : r ≤ 4000) (hn1 : 1 ≤ n) (hn : n ≤ 40) (hz : wk 67108864 r n = 0) (hp : ∀ i, i < n → 0 < wk 67108864 r i) (hs : ∀ k, k ≤ n → sm 67108864 r k < 4294967296) :
    Calls Try.prog 22 #[.int .i64 r] w (MadeR 31 (rowL (wkI r) n) w) := by
  obtain ⟨i0, hi, hz0, hz1, hz2⟩ := info_parts info64
  have HP := Lib.hid (fun i (hi : i < n) => show 0 < wkI r i ∧ wkI r i < 4294967296 from by
    have h1 := hp i hi
    have h2 := Nat.lt_of_le_of_lt (wk_le_sm 67108864 r i) (hs (i + 1) hi)
    unfold wkI; omega)
  have HZ : Hid (wkI r n = 0) := Lib.hid (by unfold wkI; rw [hz]; rfl)
  have H0 : Hid (wkI r 0 = 67108864) := Lib.hid rfl
  clear hp hz hs
  have hst := Lib.hid (wk_step r)
  go_enter Try.func22, Try.ntmps22
  go_wp2_with fail
  go_loopw [4, 5, 6] (fun l x i wr => ∃ k : Nat, k ≤ n ∧ i = .int .u64 (k + 1 : Nat) ∧ x = .int .u64 (wkI r k) ∧ wr.ownsRow w.heap.size 31 1 l k ((rowL (wkI r) k).map (Value.int .u64)) ∧ Below w.heap.size w wr) (fun _ _ i _ => n + 1 - (intOf i).toNat)
  case atStart => exact ⟨0, by omega, rfl, by rw [H0.out], World.ownsRow_nil _ _ _ _, Below.refl _ _⟩
  case round =>
    obtain ⟨k, hk, rfl, rfl, hown, hb⟩ := hrel
    by_cases h : k < n
    · obtain ⟨p0, p1⟩ := HP.out k h
      have hsk := Lib.hid (hst.out k)
      have hrow := Lib.hid (rowL_succ (wkI r) k)
      obtain ⟨x, hx⟩ : ∃ x, wkI r k = x := ⟨_, rfl⟩
      rw [hx] at p0 p1 hsk hrow
      rw [hx]
      clear hx
      obtain ⟨q0, q1⟩ := wk_prod hr (show 0 ≤ x by omega) p1
      have hne : (x == 0) = false := by rw [beq_eq_false_iff_ne]; omega
      have hne' : (x != 0) = true := by rw [bne_iff_ne]; omega
      obtain ⟨g, cap, hv⟩ : ∃ (g : Option Addr) (cap : Nat), u4 = .slice g k cap := by
        rcases hown.2 with ⟨rfl, h0⟩ | ⟨g, cap, _, rfl, _⟩
        · exact ⟨none, 0, by rw [h0]⟩
        · exact ⟨_, cap, rfl⟩
      subst hv
      have hl1 : ¬ ((1000 * ((k : Int) + 1)) == 0) = true := by simp; omega
      have hl0 : ((1000 * ((k : Int) + 1)) == 0) = false := by rw [beq_eq_false_iff_ne]; omega
      go_wp2_with (at_builtin; refine wpList_append_own _ rfl _ _ 33 rfl w.heap.size 31 i0 (.int .u64 0) 1 8 Try.underlying33 hi hz0 hz1 hz2 rfl (by decide) _ _ _ rfl (hown.alloc _) ⟨_, 0, none⟩ 1 1 [.int .u64 x] rfl rfl one_newR (by intro u hu; simp at hu; subst hu; rfl) (by unfold maxLen; omega) (by omega) (by have := hb.size; simp; omega) ?_; intro v' w1 hown' hgrow _)
      have hb1 : Below w.heap.size w w1 := by
        refine (hb.alloc hb.size _).grown hgrow (by have := hb.size; simp; omega) (fun g hg => ?_)
        first | exact ownR_ge hown hg | exact ownR_ge hown hg.symm
      have hown2 : w1.ownsRow w.heap.size 31 1 v' (k + 1) ((rowL (wkI r) (k + 1)).map (Value.int .u64)) := by
        rw [hrow.out, List.map_append]; exact hown'
      clear hown' hgrow
      go_wp2_with fail
      go_roundw
      case rel => exact ⟨k + 1, by omega, by go_num, by rw [hsk.out], hown2, hb1⟩
      case measure => simp [intOf]; omega
    · obtain rfl : k = n := by omega
      have e0 := HZ.out
      go_wp2_with fail
      go_ret2
      exact ⟨_, rfl, by rw [rowL_len]; exact hown, hb⟩
/-- the first k weights together -/
def soI (r : Nat) (k : Nat) : Int := (sm 67108864 r k : Nat)
theorem so_step (r k : Nat) : soI r (k + 1) = soI r k + wkI r k := by unfold soI wkI; rw [sm_succ]; omega
theorem sm_so (r k : Nat) : smI r k = soI r (k + 1) := rfl
theorem tb_so (r n k : Nat) : tbI r n k = soI r (k + 1) * 4294967296 / soI r n := by
  unfold tbI soI tbv; rw [Int.natCast_ediv, Int.natCast_mul]; rfl
/-- a round of the sums -/
theorem sum_step {r n k g cap B : Nat} {E : TypeId} {wr : World} {z : Int} (hk : k < n) (hown : wr.ownsRow B E 1 (.slice (some ⟨g, 0, none⟩) n cap) n ((mixL (smI r) (wkI r) k n).map (Value.int .u64))) (e : soI r k + wkI r k = z) :
    (wr.setCell ⟨g, k, none⟩ (.int .u64 z)).ownsRow B E 1 (.slice (some ⟨g, 0, none⟩) n cap) n ((mixL (smI r) (wkI r) (k + 1) n).map (Value.int .u64)) :=
  ownR_put hown (by rw [sm_so, so_step, e])
theorem tab_step {r n k g cap B : Nat} {E : TypeId} {wr : World} {z : Int} (hk : k < n) (hown : wr.ownsRow B E 1 (.slice (some ⟨g, 0, none⟩) n cap) n ((mixL (tbI r n) (smI r) k n).map (Value.int .u64))) (e : soI r (k + 1) * 4294967296 / soI r n = z) :
    (wr.setCell ⟨g, k, none⟩ (.int .u64 z)).ownsRow B E 1 (.slice (some ⟨g, 0, none⟩) n cap) n ((mixL (tbI r n) (smI r) (k + 1) n).map (Value.int .u64)) :=
  ownR_put hown (by rw [tb_so, e])
set_option maxRecDepth 100000 in
set_option maxHeartbeats 1000000 in
theorem table_any (r n : Nat) (w : World) (hr : r ≤ 4000) (hn1 : 1 ≤ n) (hn : n ≤ 40) (hz : wk 67108864 r n = 0) (hp : ∀ i, i < n → 0 < wk 67108864 r i) (hs : ∀ k, k ≤ n → sm 67108864 r k < 4294967296) (h0 : 0 < sm 67108864 r n) :
    Calls Try.prog 23 #[.int .i64 r] w (MadeR 31 (rowL (tbI r n) n) w) := by
  have HW := Lib.hid (weights_any r n w hr hn1 hn hz hp hs)
  have BS := Lib.hid (fun k (hk : k ≤ n) => show 0 ≤ soI r k ∧ soI r k ≤ 4294967295 ∧ 0 ≤ wkI r k from by
    have h2 := hs k hk
    unfold soI wkI; omega)
  have H0 : Hid (0 < soI r n) := Lib.hid (by unfold soI; omega)
  have S0 : Hid (soI r 0 = 0) := Lib.hid rfl
  clear hz hp hs h0
  go_enter Try.func23, Try.ntmps23
  go_wp2_with fail
  refine HW.out.mono ?_
  rintro e w1 ⟨v, rfl, hown, hb⟩
  rw [rowL_len] at hown
  obtain ⟨g, cap, rfl, hg, hcap⟩ := ownR_head hown (by omega)
  have HO := Lib.hid hown
  have HB := Lib.hid hb
  clear hown hb
  go_wp2_with fail
  go_loopw [6, 21] (fun s i wr => ∃ k : Nat, k ≤ n ∧ i = .int .i64 k ∧ s = .int .u64 (soI r k) ∧ wr.ownsRow w.heap.size 31 1 (.slice (some ⟨g, 0, none⟩) n cap) n ((mixL (smI r) (wkI r) k n).map (Value.int .u64)) ∧ Below w.heap.size w wr) (fun _ i _ => n - (intOf i).toNat)
  case atStart => exact ⟨0, by omega, rfl, by rw [S0.out], by rw [mixL_zero]; exact HO.out, HB.out⟩
  case round =>
    obtain ⟨k, hk, rfl, rfl, hown, hb⟩ := hrel
    by_cases h : k < n
    · have c1 := ownR_cellM hown h (Nat.le_refl k)
      have f1 := hown.frozenAt k
      obtain ⟨b1, b2, b3⟩ := BS.out k hk
      obtain ⟨b4, b5, b6⟩ := BS.out (k + 1) h
      have hst := Lib.hid (so_step r k)
      obtain ⟨x, hx⟩ : ∃ x, wkI r k = x := ⟨_, rfl⟩
      obtain ⟨y, hy⟩ : ∃ y, soI r k = y := ⟨_, rfl⟩
      have hz1 : 0 ≤ y + x := by rw [← hy, ← hx, ← hst.out]; exact b4
      have hz2 : y + x ≤ 4294967295 := by rw [← hy, ← hx, ← hst.out]; exact b5
      have S2 := Lib.hid (sum_step h hown (z := y + x) (by rw [hx, hy]))
      have HB2 := Lib.hid hb
      have HR : Hid (soI r (k + 1) = y + x) := Lib.hid (by rw [hst.out, hx, hy])
      rw [hx] at c1 b3
      rw [hy] at b1 b2
      rw [hy]
      clear hx hy hown hb b4 b5 b6 hst
      go_wp2_with fail
      go_roundw
      case rel => exact ⟨k + 1, by omega, by go_num, by rw [HR.out], S2.out, HB2.out.setCell hg _⟩
      case measure => simp [intOf]; omega
    · obtain rfl : k = n := by omega
      obtain ⟨b1, b2, b3⟩ := BS.out k hk
      have h0 := H0.out
      obtain ⟨y, hy⟩ : ∃ y, soI r k = y := ⟨_, rfl⟩
      rw [mixL_full] at hown
      have HO2 := Lib.hid hown
      have HB2 := Lib.hid hb
      have HY := Lib.hid hy
      rw [hy] at b1 b2 h0
      rw [hy]
      have hy0 : (y == 0) = false := by rw [beq_eq_false_iff_ne]; omega
      clear hown hb hy
      go_wp2_with fail
      go_loopw [36] (fun i wr => ∃ j : Nat, j ≤ k ∧ i = .int .i64 j ∧ wr.ownsRow w.heap.size 31 1 (.slice (some ⟨g, 0, none⟩) k cap) k ((mixL (tbI r k) (smI r) j k).map (Value.int .u64)) ∧ Below w.heap.size w wr) (fun i _ => k - (intOf i).toNat)
      case atStart => exact ⟨0, by omega, rfl, by rw [mixL_zero]; exact HO2.out, HB2.out⟩
      case round =>
        obtain ⟨j, hj, rfl, hown, hb⟩ := hrel
        by_cases h : j < k
        · have c1 := ownR_cellM hown h (Nat.le_refl j)
          have f1 := hown.frozenAt j
          obtain ⟨b4, b5, b6⟩ := BS.out (j + 1) h
          rw [sm_so] at c1
          obtain ⟨x, hx⟩ : ∃ x, soI r (j + 1) = x := ⟨_, rfl⟩
          have S2 := Lib.hid (tab_step h hown (z := x * 4294967296 / y) (by rw [hx, HY.out]))
          have HB3 := Lib.hid hb
          rw [hx] at c1 b4 b5
          clear hx hown hb b6
          go_wp2_with fail
          go_roundw
          case rel => exact ⟨j + 1, by omega, by go_num, S2.out, HB3.out.setCell hg _⟩
          case measure => simp [intOf]; omega
        · obtain rfl : j = k := by omega
          rw [mixL_full] at hown
          go_wp2_with fail
          go_ret2
          exact ⟨_, rfl, by rw [rowL_len]; exact hown, hb⟩
theorem table_no (r : Int) (w : World) (h : r < 0 ∨ 4000 < r) :
    Calls Try.prog 23 #[.int .i64 r] w fun e w' => e = .returned (.tuple #[.slice none 0 0, .int .i64 22]) ∧ w = w' := by
  have HW := Lib.hid (weights_no r w h)
  go_enter Try.func23, Try.ntmps23
  go_wp2_with (go_at_call 22; refine HW.out.mono ?_; rintro e w' ⟨rfl, rfl⟩)
  go_ret2
  exact ⟨rfl, rfl⟩
end Go.Proofs.Ytkepplkfjcoemab
