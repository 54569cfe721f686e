/- Contracts of rank.Of, Ends and of the law's example. -/
import Derived.Test.YtcofafiacpecnaaRows
import Derived.Test.YtcofafiacpecnaaRowKit
import Derived.Test.YtcofafiacpecnaaSlicesEq
import Derived.Test.YtcofafiacpecnaaSlicesEqM
import Derived.Test.YtcofafiacpecnaaRowL
import Derived.Test.YtcofafiacpecnaaMakeI
import Derived.Test.YtcofafiacpecnaaShelf
import Derived.Test.YtcofafiacpecnaaSeqA
import Derived.Test.YtcofafiacpecnaaSeqB
import Derived.Test.YtcofafiacpecnaaRankMath
import Derived.Test.YtcofafiacpecnaaRankA
import Derived.WalkKit
import Derived.IntWalk
import Derived.Lib.Hide
import Derived.WalkSpells
import Derived.WalkLawsBesides
import Derived.Below
namespace Go.Proofs.Ytcofafiacpecnaa
open Go.RowKit
set_option linter.unusedSimpArgs false
set_option linter.unusedVariables false
theorem one_rd (p : Int) (w : World) (hw : (Lit.int .i64 p).wf = true) : RdI (w.alloc (.cells #[.int .i64 p] 3)) .i64 (some ⟨w.heap.size, 0, none⟩) [p] := rdI_mk fun i hi => by
  obtain rfl : i = 0 := by simp at hi; omega
  exact ⟨by rw [World.cell?_alloc_mark]; rfl, hw⟩
theorem wf_small {p : Int} (h1 : 1 ≤ p) (h2 : p ≤ 100) : (Lit.int .i64 p).wf = true := by
  have e1 : IntKind.i64.min = -9223372036854775808 := by decide
  have e2 : IntKind.i64.max = 9223372036854775807 := by decide
  simp [Lit.wf, e1, e2]; omega
set_option maxHeartbeats 1000000 in
theorem rof_ok (p : Int) (A : Option Addr) (c n t : Nat) (zs : List Int) (w : World) (hn : zs.length = n) (hr : RdI w .i64 A zs) (p1 : 1 ≤ p) (p2 : p ≤ 100) (n0 : 1 ≤ n) (n1 : n ≤ 1000000) (ht : (plI p n).toNat - 1 = t) :
    Calls Try.prog 57 #[.int .i64 p, .slice A n c] w fun e w' => e = .returned (.tuple #[.int .i64 (zat (srt zs) t), .int .i64 0]) ∧ Below w.heap.size w w' := by
  have B0 := Joins.below_alloc1 w (.cells #[.int .i64 p] 3)
  have KM := rmany_ok (some ⟨w.heap.size, 0, none⟩) A 1 c 1 n [p] zs (w.alloc (.cells #[.int .i64 p] 3)) rfl hn (one_rd p w (wf_small p1 p2)) (hr.kept B0) (by omega) n1 (fun i hi => by obtain rfl : i = 0 := (by omega); exact ⟨p1, p2, n0⟩)
  have e : pctS zs [p] 0 = zat (srt zs) t := by unfold pctS; rw [hn]; show zat (srt zs) ((plI p n).toNat - 1) = _; rw [ht]
  obtain ⟨x, hx⟩ : ∃ x, zat (srt zs) t = x := ⟨_, rfl⟩
  rw [hx] at e ⊢
  have HM := Lib.hid KM
  have HE := Lib.hid e
  have HB := Lib.hid B0
  clear KM e hn hr B0 ht hx
  go_enter Try.func57, Try.ntmps57
  go_wp2_with fail
  refine HM.out.mono ?_
  rintro e w1 ⟨Z, cz, rfl, hZ, hb1⟩
  obtain ⟨b, off, rfl, hlt, hc⟩ := rdI_row hZ (by rw [rowL_len]; omega)
  have c0 : w1.cell? ⟨b, off, none⟩ = some (.int .i64 x) := by
    have := hc 0 (by rw [rowL_len]; omega)
    rwa [rowL_at _ (by omega), HE.out] at this
  have HB1 := Lib.hid (HB.out.trans (hb1.mono HB.out.size))
  clear hc hZ hb1
  go_wp2_with fail
  go_ret2
  exact ⟨rfl, HB1.out⟩
set_option maxHeartbeats 1000000 in
theorem rof_no (p : Int) (A : Option Addr) (c n : Nat) (zs : List Int) (w : World) (hn : zs.length = n) (hr : RdI w .i64 A zs) (hp : (Lit.int .i64 p).wf = true) (n1 : n ≤ 1000000) (hno : p < 1 ∨ 100 < p ∨ n < 1) :
    Calls Try.prog 57 #[.int .i64 p, .slice A n c] w fun e w' => e = .returned (.tuple #[.int .i64 0, .int .i64 22]) ∧ Below w.heap.size w w' := by
  have B0 := Joins.below_alloc1 w (.cells #[.int .i64 p] 3)
  have KM := rmany_no (some ⟨w.heap.size, 0, none⟩) A 1 c 1 n 0 [p] zs (w.alloc (.cells #[.int .i64 p] 3)) rfl hn (one_rd p w hp) (hr.kept B0) (by omega) n1 (by omega) (fun i hi => absurd hi (by omega)) hno
  have HM := Lib.hid KM
  have HB := Lib.hid B0
  clear KM hn hr B0 hno hp
  go_enter Try.func57, Try.ntmps57
  go_wp2_with fail
  refine HM.out.mono ?_
  rintro e w1 ⟨rfl, hb1⟩
  have HB1 := Lib.hid (HB.out.trans (hb1.mono HB.out.size))
  clear hb1
  go_wp2_with fail
  go_ret2
  exact ⟨rfl, HB1.out⟩
theorem srt_eg : srt [3, 1, 2] = [1, 2, 3] := by
  unfold srt
  simp [List.mergeSort, List.MergeSort.Internal.splitInTwo, List.merge]
set_option maxHeartbeats 1000000 in
theorem rkalive (w : World) : Calls Try.prog 56 #[] w fun e w' => e = .returned (.bool true) ∧ Below w.heap.size w w' := by
  have B0 := Joins.below_alloc1 w (.cells #[.int .i64 3, .int .i64 1, .int .i64 2] 3)
  have hr : RdI (w.alloc (.cells #[.int .i64 3, .int .i64 1, .int .i64 2] 3)) .i64 (some ⟨w.heap.size, 0, none⟩) [3, 1, 2] := rdI_mk fun i hi => by
    have : i = 0 ∨ i = 1 ∨ i = 2 := by simp at hi; omega
    rcases this with rfl | rfl | rfl
    · exact ⟨by rw [World.cell?_alloc_mark]; rfl, by decide⟩
    · exact ⟨by rw [World.cell?_alloc_mark]; rfl, by decide⟩
    · exact ⟨by rw [World.cell?_alloc_mark]; rfl, by decide⟩
  have K := rof_ok 50 _ 3 3 1 _ _ rfl hr (by omega) (by omega) (by omega) (by omega) (by decide)
  rw [srt_eg, show zat [1, 2, 3] 1 = 2 from rfl] at K
  have HK := Lib.hid K
  have HB := Lib.hid B0
  clear K hr B0
  go_enter Try.func56, Try.ntmps56
  go_wp2_with fail
  refine HK.out.mono ?_
  rintro e w1 ⟨rfl, hb1⟩
  go_wp2_with fail
  go_ret
  exact ⟨rfl, HB.out.trans (hb1.mono HB.out.size)⟩
end Go.Proofs.Ytcofafiacpecnaa
