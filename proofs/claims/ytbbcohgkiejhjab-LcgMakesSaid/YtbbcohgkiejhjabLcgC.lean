/- The contract of lcg.Make: the words of a seed. -/
import Derived.Test.YtbbcohgkiejhjabRows
import Derived.Test.YtbbcohgkiejhjabRowKit
import Derived.Test.YtbbcohgkiejhjabBlocks
import Derived.Test.YtbbcohgkiejhjabSlicesEq
import Derived.Test.YtbbcohgkiejhjabLcgMath
import Derived.Test.YtbbcohgkiejhjabLcgA
import Derived.Test.YtbbcohgkiejhjabLcgB
import Derived.WalkKit
import Derived.Lib.Hide
import Derived.WalkSpells
import Derived.WalkLawsBesides
import Derived.Laws.CopyOwn
import Derived.Laws.MakeOwn
import Derived.Deep.QuietTactic
import Derived.BigQuiet
namespace Go.Proofs.Ytbbcohgkiejhjab
open Go.RowKit
set_option linter.unusedSimpArgs false
set_option linter.unusedVariables false
/-- the first k words of a seed -/
def wds (s k : Nat) : List Int := (List.range k).map fun i => ((wd (its (i + 1) s) : Nat) : Int)
theorem wds_len (s k : Nat) : (wds s k).length = k := by simp [wds]
theorem wds_succ (s k : Nat) : wds s (k + 1) = wds s k ++ [((wd (its (k + 1) s) : Nat) : Int)] := by simp [wds, List.range_succ]
theorem wds_at (s k i : Nat) (h : i < k) : zat (wds s k) i = ((wd (its (i + 1) s) : Nat) : Int) := by
  unfold zat wds
  simp [List.getD_eq_getElem?_getD, h]
theorem info32 : (Try.prog.info? 59).map (fun i => (i.zero, i.size, i.bytes)) = some (some (.int .u32 0), 1, 4) := by kernel_rfl
/-- a row of words that the call made -/
def MakeP (ys : List Int) (w : World) (e : Ending) (w' : World) : Prop := ∃ v, e = .returned v ∧ w'.ownsRow w.heap.size 59 1 v ys.length (ys.map (Value.int .u32)) ∧ Below w.heap.size w w'
theorem own_ge {w : World} {base : Nat} {e : TypeId} {size : Nat} {v : Value} {n : Nat} {xs : List Value} (h : w.ownsRow base e size v n xs) {g : Nat} (hg : v.ownBlock = some g) : base ≤ g := by
  rcases h.2 with ⟨hv, _⟩ | ⟨g', cap, cur, hv, hge, _⟩
  · subst hv; simp [Value.ownBlock] at hg
  · subst hv; simp [Value.ownBlock] at hg; omega
theorem one_new {w : World} {v : Value} {t : TypeId} : ∀ (j : Nat) (u : Value), [v][j]? = some u → (w.alloc (.cells #[v] t)).cell? ((⟨w.heap.size, 0, none⟩ : Addr).add j) = some u := by
  intro j u hj
  match j, hj with
  | 0, hj => simp at hj; subst hj; simp [Addr.add]
set_option maxRecDepth 100000 in
set_option maxHeartbeats 1000000 in
theorem make_pos (s n : Nat) (w : World) (hs : s < 18446744073709551616) (hn0 : 0 < n) (hn : n ≤ 300) :
    Calls Try.prog 36 #[.int .u64 s, .int .i64 n] w (MakeP (wds s n) w) := by
  obtain ⟨i0, hi, hz0, hz1, hz2⟩ := info_parts info32
  have m1 : min (n : Int) 1048576 = n := by omega
  have m2 : max 0 (n : Int) = n := by omega
  have m3 : ¬ (n : Int) ≤ 0 := by omega
  go_enter Try.func36, Try.ntmps36
  go_wp2_with (at_make; refine wpList_make_own _ rfl _ _ 58 rfl w.heap.size 59 i0 (.int .u32 0) 1 Try.underlying58 hi hz0 hz1 _ _ _ n rfl rfl (by omega) (by rw [hz2]; omega) (by unfold maxLen; omega) (Nat.le_refl _) ?_; intro w0 hown0 hgrow0)
  have hb0 : Below w.heap.size w w0 := (Below.refl _ _).grown hgrow0 (Nat.le_refl _) (fun k h => by cases h)
  clear hgrow0 m1 m2
  go_loopw [0, 5, 12] (fun sd l i wr => ∃ k : Nat, k ≤ n ∧ i = .int .i64 k ∧ sd = .int .u64 (its k s : Nat) ∧ wr.ownsRow w.heap.size 59 1 l k ((wds s k).map (Value.int .u32)) ∧ Below w.heap.size w wr) (fun _ _ i _ => n - (intOf i).toNat)
  case atStart => exact ⟨0, by omega, rfl, rfl, by simpa [wds] using hown0, hb0⟩
  case round =>
    obtain ⟨k, hk, rfl, rfl, hown, hb⟩ := hrel
    have hlt := its_lt hs k
    by_cases h : k < n
    · go_wp2_with fail
      refine (step_any _ _ hlt).mono ?_
      rintro e w' ⟨rfl, rfl⟩
      go_wp2_with fail
      refine (word_any _ _ (stp_lt _)).mono ?_
      rintro e w' ⟨rfl, rfl⟩
      go_wp2_with (at_builtin; refine wpList_append_own _ rfl _ _ 58 rfl w.heap.size 59 i0 (.int .u32 0) 1 4 Try.underlying58 hi hz0 hz1 hz2 rfl (by decide) _ _ _ rfl (hown.alloc _) ⟨_, 0, none⟩ 1 1 [.int .u32 (wd (stp (its k s)) : Nat)] rfl rfl one_new (by intro u hu; simp at hu; subst hu; rfl) (by unfold maxLen; omega) (by omega) (by have := hb.size; simp; omega) ?_; intro v' w1 hown' hgrow _)
      have hb1 : Below w.heap.size w w1 := by
        refine (hb.alloc hb.size _).grown hgrow (by have := hb.size; simp; omega) (fun g hg => ?_)
        first | exact own_ge hown hg | exact own_ge hown hg.symm
      have hown2 : w1.ownsRow w.heap.size 59 1 v' (k + 1) ((wds s (k + 1)).map (Value.int .u32)) := by
        rw [wds_succ, its_succ, List.map_append]; exact hown'
      clear hown' hgrow
      go_wp2_with fail
      go_roundw
      case rel => exact ⟨k + 1, by omega, by go_num, by rw [its_succ], hown2, hb1⟩
      case measure => simp [intOf]; omega
    · obtain rfl : k = n := by omega
      go_wp2_with fail
      go_ret
      exact ⟨_, rfl, by rw [wds_len]; exact hown, hb⟩
theorem own_rdI {w : World} {base : Nat} {e : TypeId} {v : Value} {k : IntKind} {ys : List Int} (h : w.ownsRow base e 1 v ys.length (ys.map (Value.int k))) (hwf : ∀ i, i < ys.length → (Lit.int k (zat ys i)).wf = true) : ∃ A c, v = .slice A ys.length c ∧ RdI w k A ys := by
  rcases h.2 with ⟨rfl, hn⟩ | ⟨g, cap, cur, rfl, hg, hh, hnc, _, hcs, htake⟩
  · exact ⟨none, 0, by rw [hn], rdI_none hn⟩
  · refine ⟨some ⟨g, 0, none⟩, cap, rfl, rdI_mk fun i hi => ⟨?_, hwf i hi⟩⟩
    have hcl := h.cells (g := g) rfl i (.int k (zat ys i)) (by unfold zat; rw [List.getElem?_map, List.getElem?_eq_getElem hi, List.getD_eq_getElem?_getD, List.getElem?_eq_getElem hi]; rfl)
    by_cases h0 : i = 0
    · subst h0; simpa [Addr.add] using hcl
    · simpa [Addr.add, h0] using hcl
theorem wds_wf {s : Nat} (hs : s < 18446744073709551616) (k i : Nat) (hi : i < (wds s k).length) : (Lit.int .u32 (zat (wds s k) i)).wf = true := by
  rw [wds_len] at hi
  rw [wds_at s k i hi]
  have := wd_lt (its_lt hs (i + 1))
  exact WalkArith.wf_u32 (by omega)
set_option maxRecDepth 100000 in
set_option maxHeartbeats 1000000 in
theorem make_nil (s : Nat) (m : Int) (w : World) (hs : s < 18446744073709551616) (hm : m ≤ 0) (hm' : -9223372036854775808 ≤ m) :
    Calls Try.prog 36 #[.int .u64 s, .int .i64 m] w (MakeP [] w) := by
  obtain ⟨i0, hi, hz0, hz1, hz2⟩ := info_parts info32
  have m1 : min m 1048576 = m := by omega
  have m2 : max 0 m = 0 := by omega
  go_enter Try.func36, Try.ntmps36
  go_wp2_with (at_make; refine wpList_make_own _ rfl _ _ 58 rfl w.heap.size 59 i0 (.int .u32 0) 1 Try.underlying58 hi hz0 hz1 _ _ _ 0 rfl rfl (by omega) (by rw [hz2]; omega) (by unfold maxLen; omega) (Nat.le_refl _) ?_; intro w0 hown0 hgrow0)
  all_goals
    have hb0 : Below w.heap.size w w0 := (Below.refl _ _).grown hgrow0 (Nat.le_refl _) (fun k h => by cases h)
    clear hgrow0 m1 m2
    go_loop [5, 12] (fun l i => i = .int .i64 0 ∧ l = .slice (some ⟨w.heap.size, 0, none⟩) 0 0) (fun _ i => 0)
    case atStart => exact ⟨rfl, rfl⟩
    case round =>
      obtain ⟨rfl, rfl⟩ := hrel
      go_wp2_with fail
      go_ret
      exact ⟨_, rfl, hown0, hb0⟩
end Go.Proofs.Ytbbcohgkiejhjab
