/- Parking: what floors cost, by rows and by lists; the chapter's example. -/
import Derived.Test.YtloplambpfjioaaRows
import Derived.Test.YtloplambpfjioaaRowKit
import Derived.Test.YtloplambpfjioaaRowS
import Derived.Test.YtloplambpfjioaaRowZ
import Derived.Test.YtloplambpfjioaaSlicesEq
import Derived.Test.YtloplambpfjioaaSlicesEqM
import Derived.Test.YtloplambpfjioaaRowL
import Derived.Test.YtloplambpfjioaaRowM
import Derived.Test.YtloplambpfjioaaMakeI
import Derived.Test.YtloplambpfjioaaBlocks
import Derived.Test.YtloplambpfjioaaParkH
import Derived.Test.YtloplambpfjioaaParkC
import Derived.Test.YtloplambpfjioaaParkPlan
import Derived.Test.YtloplambpfjioaaRowM
import Derived.Test.YtloplambpfjioaaPlaceA
import Derived.Test.YtloplambpfjioaaShelf
import Derived.WalkKit
import Derived.IntWalk
import Derived.Lib.Hide
import Derived.WalkSpells
import Derived.WalkLawsBesides
import Derived.Laws.CopyOwn
import Derived.Laws.MakeOwn
import Derived.Laws.OwnMore
import Derived.OwnWalk
import Derived.Deep.QuietTactic
import Derived.BigQuiet
import Derived.Deep.RegionHeld3
import Derived.Deep.LoopGhost
import Derived.BigRegion
import Derived.Deep.AppendLies
import Derived.Maps.AppendAt
import Derived.Below
namespace Go.Proofs.Ytloplambpfjioaa
open Go.RowKit
set_option linter.unusedSimpArgs false
set_option linter.unusedVariables false
theorem zat_mem {fs : List Int} {k : Nat} (h : k < fs.length) : zat fs k ∈ fs := by
  unfold zat
  rw [List.getD_eq_getElem?_getD, List.getElem?_eq_getElem h]
  exact List.getElem_mem h
theorem mem_zat {fs : List Int} {s : Int} (h : s ∈ fs) : ∃ k, k < fs.length ∧ zat fs k = s := by
  obtain ⟨k, hk, e⟩ := List.getElem_of_mem h
  refine ⟨k, hk, ?_⟩
  unfold zat
  rw [List.getD_eq_getElem?_getD, List.getElem?_eq_getElem hk]; exact e
theorem nr_nl {fs : List Int} {m : Nat} (hm : fs.length = m) (h0 : 0 < m) (f : Int) : nr (zat fs) f m = nl fs f := by
  subst hm
  obtain ⟨q, hq⟩ : ∃ q, fs.length = q + 1 := ⟨fs.length - 1, by omega⟩
  have hne : fs ≠ [] := fun e => by rw [e] at h0; simp at h0
  refine isNL_unique (S := fs) (f := f) ?_ (nl_is f fs hne)
  have h := nr_is (zat fs) f q
  rw [← hq] at h
  obtain ⟨⟨k, hk, e⟩, h2⟩ := h
  refine ⟨⟨_, zat_mem hk, e⟩, fun s hs => ?_⟩
  obtain ⟨j, hj, e⟩ := mem_zat hs
  rw [← e]; exact h2 j hj
theorem cst_sm (l d : Nat → Int) : ∀ n, cst l d n = sm (fun i => l i * d i) 0 n
  | 0 => rfl
  | n + 1 => by rw [cst_succ, sm_succ, cst_sm l d n, Nat.zero_add]
theorem coV_sm {zs fs : List Int} {n m : Nat} (hm : fs.length = m) (h0 : 0 < m) : coV zs fs n m = sm (fun f => zat zs f * nl fs f) 0 n := by
  unfold coV
  rw [cst_sm]
  exact sm_congr (fun f _ _ => by rw [nr_nl hm h0])
theorem optP_co {zs fs : List Int} {n : Nat} {k v : Int} (h : OptP zs n k fs v) (hq : RgP zs n) : GdP zs fs n fs.length ∧ v = coV zs fs n fs.length := by
  have h0 : 0 < fs.length := by
    rcases Nat.eq_zero_or_pos fs.length with q | q
    · exact absurd (List.length_eq_zero_iff.1 q) h.1
    · exact q
  exact ⟨⟨hq, h0, fun j hj => h.2.2.2.1 _ (zat_mem hj)⟩, by rw [coV_sm rfl h0]; exact h.2.2.2.2.1⟩
theorem opt_ex {fs : List Int} {v : Int} (h : OptP [1, 0, 0, 1] 4 2 fs v) : fs = [0, 3] ∧ v = 0 := by
  obtain ⟨h1, h2, h3, h4, h5, h6, h7⟩ := h
  have a := h7 [0, 3] (by simp) (by simp)
  have e : sm (fun f => zat [1, 0, 0, 1] f * nl [0, 3] f) 0 4 = 0 := by decide
  rw [e] at a
  obtain rfl : v = 0 := by omega
  have b : sm (fun f => zat [1, 0, 0, 1] f * nl fs f) 0 4 = 0 + zat [1, 0, 0, 1] 0 * nl fs 0 + zat [1, 0, 0, 1] 1 * nl fs 1 + zat [1, 0, 0, 1] 2 * nl fs 2 + zat [1, 0, 0, 1] 3 * nl fs 3 := rfl
  rw [show zat [1, 0, 0, 1] 0 = 1 from rfl, show zat [1, 0, 0, 1] 1 = 0 from rfl, show zat [1, 0, 0, 1] 2 = 0 from rfl, show zat [1, 0, 0, 1] 3 = 1 from rfl, ← h5] at b
  have n0 := nl_nn h1 0
  have n3 := nl_nn h1 3
  have e0 : nl fs 0 = 0 := by omega
  have e3 : nl fs 3 = 0 := by omega
  obtain ⟨⟨s, hs, es⟩, _⟩ := nl_is 0 fs h1
  obtain ⟨⟨t, ht, et⟩, _⟩ := nl_is 3 fs h1
  have hs0 : s = 0 := by rw [e0] at es; unfold dst at es; split at es <;> omega
  have ht3 : t = 3 := by rw [e3] at et; unfold dst at et; split at et <;> omega
  subst hs0; subst ht3
  refine ⟨?_, rfl⟩
  match fs, h2, h3, hs, ht with
  | [], _, _, hs, _ => simp at hs
  | [x], _, _, hs, ht => simp at hs ht; omega
  | [x, y], _, h3, hs, ht =>
    simp at h3 hs ht
    have hx : x = 0 := by omega
    have hy : y = 3 := by omega
    rw [hx, hy]
  | x :: y :: z :: r, h2, _, _, _ => simp at h2; omega
set_option maxRecDepth 100000 in
set_option maxHeartbeats 8000000 in
theorem alive61 (w : World) : Calls Try.prog 8 #[] w fun e w' => e = .returned (.bool true) ∧ Below w.heap.size w w' := by
  have hr : RdI (w.alloc (.cells #[.int .i64 1, .int .i64 0, .int .i64 0, .int .i64 1] 3)) .i64 (some ⟨w.heap.size, 0, none⟩) [1, 0, 0, 1] := rdI_mk (fun i hi => by
    have hB := Blk.new w #[.int .i64 1, .int .i64 0, .int .i64 0, .int .i64 1] 3
    rw [Nat.zero_add, hB.cell]
    simp at hi
    rcases (by omega : i = 0 ∨ i = 1 ∨ i = 2 ∨ i = 3) with rfl | rfl | rfl | rfl <;> exact ⟨rfl, by decide⟩)
  have KB := Lib.hid (best_any (some ⟨w.heap.size, 0, none⟩) 4 4 [1, 0, 0, 1] 2 _ rfl (by omega) (by decide) hr)
  have E0 : Hid (Below w.heap.size w (w.alloc (.cells #[.int .i64 1, .int .i64 0, .int .i64 0, .int .i64 1] 3))) := Lib.hid ((Below.refl _ _).alloc (Nat.le_refl _) _)
  have HQ : Hid (RgP [1, 0, 0, 1] 4) := Lib.hid ⟨by omega, by omega, fun i hi => by
    rcases (by omega : i = 0 ∨ i = 1 ∨ i = 2 ∨ i = 3) with rfl | rfl | rfl | rfl <;> decide⟩
  clear hr
  go_enter Try.func8, Try.ntmps8
  go_wp2_with fail
  refine KB.out.mono ?_
  rintro e w1 ⟨hb, h⟩
  rcases h with ⟨_, _, P, c, fs, v, rfl, hr, _, hopt⟩ | ⟨h, _⟩
  · obtain ⟨rfl, rfl⟩ := opt_ex hopt
    have E1 := Lib.hid (E0.out.trans (hb.mono E0.out.size))
    have hr2 : RdI (w1.alloc (.cells #[.int .i64 0, .int .i64 3] 3)) .i64 (some ⟨w1.heap.size, 0, none⟩) [0, 3] := rdI_mk (fun i hi => by
      have hB := Blk.new w1 #[.int .i64 0, .int .i64 3] 3
      rw [Nat.zero_add, hB.cell]
      simp at hi
      rcases (by omega : i = 0 ∨ i = 1) with rfl | rfl <;> exact ⟨rfl, by decide⟩)
    have hr1 : RdI (w1.alloc (.cells #[.int .i64 0, .int .i64 3] 3)) .i64 P [0, 3] := hr.kept ((Below.refl _ _).alloc (Nat.le_refl _) _)
    have KE := Lib.hid (equal_int_n P (some ⟨w1.heap.size, 0, none⟩) c 2 2 [0, 3] _ rfl hr1 hr2 (by omega))
    have E2 := Lib.hid (E1.out.alloc E1.out.size (.cells #[.int .i64 0, .int .i64 3] 3))
    clear hr hr1 hr2 hopt hb KB
    go_wp2_with fail
    refine KE.out.mono ?_
    rintro e w2 ⟨rfl, q, rfl⟩
    go_wp2_with fail
    go_ret
    exact ⟨rfl, below_drewN E2.out q⟩
  · exact absurd ⟨HQ.out, by omega⟩ h
end Go.Proofs.Ytloplambpfjioaa
