/- The walk of ColsLay: it answers true for every input, and leaves all old blocks as they were. No condition but the laid tables, which are tied to the text. -/
import Derived.Test.YtkonghjmipclmaaDoorRows
import Derived.Test.YtkonghjmipclmaaDoorRowKit
import Derived.Test.YtkonghjmipclmaaDoorSlicesEq
import Derived.Test.YtkonghjmipclmaaDoorSlicesEqM
import Derived.Test.YtkonghjmipclmaaDoorRowT
import Derived.Test.YtkonghjmipclmaaDoorRowL
import Derived.Test.YtkonghjmipclmaaDoorMakeI
import Derived.Test.YtkonghjmipclmaaDoorBlocks
import Derived.Test.YtkonghjmipclmaaDoorColM
import Derived.Test.YtkonghjmipclmaaDoorColA
import Derived.Test.YtkonghjmipclmaaDoorColG
import Derived.Test.YtkonghjmipclmaaDoorColW
import Derived.Test.YtkonghjmipclmaaDoorColT
import Derived.Test.YtkonghjmipclmaaDoorColH
import Derived.Test.YtkonghjmipclmaaDoorColU
import Derived.Test.YtkonghjmipclmaaDoorRowTT
import Derived.WalkKit
import Derived.ProofKit
import Derived.OpenShut
import Derived.Deep.QuietTactic
import Derived.BigQuiet
import Derived.Lib.SmallJoins
import Derived.Lib.Hide
import Derived.WalkSpells
import Derived.WalkLawsBesides
import Derived.WalkArith
import Derived.Lib.LaidTab
import Derived.Lib.LaidU8
import Derived.Deep.LoopGhost
import Derived.BigRegion
import Derived.OwnWalk
import Derived.Laws.OwnMore
import Derived.Laws.IdiomStrings
import Derived.IntWalk
namespace Go.Proofs.YtkonghjmipclmaaDoor.colsLay
open Go.ChangeShapes Go.WideShapes Go.ChangeAt Go.RowKit Go.Joins
set_option linter.unusedSimpArgs false
set_option linter.unusedVariables false

theorem rdTT_kept {w w' : World} {R : Option Addr} {N : Nat} {A : Nat → Option Addr} {n c : Nat → Nat} {tb : Nat → Nat → ByteArray} (h : RdTT w R N A n c tb) (hb : Below w.heap.size w w') : RdTT w' R N A n c tb := fun i hi => by
  obtain ⟨b, o, e, hlt, hc, hl, ht⟩ := h i hi
  exact ⟨b, o, e, Nat.lt_of_lt_of_le hlt hb.size, (hb.cell (p := ⟨b, o + i, none⟩) hlt).trans hc, hl, ht.kept hb⟩
set_option maxRecDepth 100000 in
set_option maxHeartbeats 20000000 in
theorem walk {Ro : Option Addr} {cr N : Nat} {A : Nat → Option Addr} {n c : Nat → Nat} {tb : Nat → Nat → ByteArray} {w : World} (hc1 : N ≤ cr) (hc2 : cr ≤ maxLen) (hr : ∀ i, i < N → ∃ b o, Ro = some ⟨b, o, none⟩ ∧ b < w.heap.size ∧ w.cell? ⟨b, o + i, none⟩ = some (.slice (A i) (n i) (c i)) ∧ n i ≤ 9223372036854775807 ∧ RdT w (A i) (n i) (tb i)) (_ : Ro = none → cr = 0) (hL : laidMetH Tryd.prog Rows.colsLayRow.laid w) :
    Calls Tryd.prog 3 #[.slice Ro N cr] w fun e w' => e = .returned (.bool true) ∧ Below w.heap.size w w' := by
  clear hL
  have hM : maxLen ≤ 9223372036854775807 := by decide
  have hR : RdTT w Ro N A n c tb := hr
  have KG := Lib.hid (great16_any Ro cr N A n c tb w hR (by omega))
  have HR := Lib.hid hR
  clear hr hR hc1 hc2
  go_enter Tryd.func3, Tryd.ntmps3
  go_wp2_with fail
  refine KG.out.mono ?_
  rintro e w' ⟨r, rfl, hfin, rfl⟩
  cases r with
  | true =>
    go_wp2_with fail
    go_ret
    exact ⟨rfl, Below.refl _ _⟩
  | false =>
  have hf := hfin rfl
  have h30 := hf.1
  have HF := Lib.hid hf.2
  have hwb := wdCols_b (n := n) (tb := tb) (M := 60) N (fun i hi j hj => by have := (hf.2 i hi).2 j hj; omega)
  have hwl := wdCols_len (n := n) (tb := tb) (m := 20) N (fun i hi => (hf.2 i hi).1)
  have K1 := Lib.hid (widths_any Ro cr N A n c tb w HR.out (by omega) (fun i hi => by have := (hf.2 i hi).1; omega) (fun i hi j hj => by have := (hf.2 i hi).2 j hj; omega))
  have K2 := Lib.hid (fun (V : World) (ht : RdTT V Ro N A n c tb) => dwidths_any Ro cr N A n c tb V ht (by omega) (fun i hi => by have := (HF.out i hi).1; omega) (fun i hi j hj => by have := (HF.out i hi).2 j hj; omega))
  have K3 := Lib.hid (fun (V : World) (ht : RdTT V Ro N A n c tb) => ctext_any Ro cr N A n c tb V ht h30 HF.out)
  have K4 := Lib.hid (fun (V : World) (ht : RdTT V Ro N A n c tb) => dctext_any Ro cr N A n c tb V ht h30 HF.out)
  have HKP := Lib.hid (fun (V : World) (hb : Below w.heap.size w V) => rdTT_kept HR.out hb)
  obtain ⟨S, hS⟩ : ∃ S, bL (txC (zat (rowL (wdCols n tb N).2 (wdCols n tb N).1)) (wdCols n tb N).1 n tb N) = S := ⟨_, rfl⟩
  rw [hS] at K3 K4
  obtain ⟨p, hp⟩ : ∃ p, wdCols n tb N = p := ⟨_, rfl⟩
  rw [hp] at hwb hwl K1 K2
  obtain ⟨nw, z⟩ := p
  have hwb' : ∀ i, i < nw → 0 ≤ z i ∧ z i ≤ 60 := hwb
  have hwl' : nw ≤ 20 := hwl
  obtain ⟨ws, hws⟩ : ∃ ws, rowL z nw = ws := ⟨_, rfl⟩
  have hwn : ws.length = nw := by rw [← hws]; exact rowL_len _ _
  have HZ : Hid (∀ j, j < nw → 0 ≤ zat ws j ∧ zat ws j ≤ 60) := Lib.hid (fun j hj => by rw [← hws, rowL_at z hj]; exact hwb' j hj)
  have HWS := Lib.hid hws; have HWN := Lib.hid hwn
  clear hfin hf hwb hwl hwb' hp hws hwn hS KG hM
  go_wp2_with fail
  refine K1.out.mono ?_
  rintro e V1 ⟨v1, rfl, hw1, hb1⟩
  obtain ⟨A1, c1, rfl, hR1⟩ : ∃ WA cw, v1 = .slice WA nw cw ∧ RdI V1 .i64 WA ws := by
    have h : V1.ownsRow w.heap.size 3 1 v1 nw ((rowL z nw).map (Value.int .i64)) := hw1
    rw [HWS.out] at h
    have h2 := ownR_rd (ownR_len h HWN.out) (fun i hi => by have := HZ.out i (by rw [← HWN.out]; exact hi); exact wfi this.1 (by omega))
    rw [HWN.out] at h2
    exact h2
  have E1 := Lib.hid hb1
  have HR1 := Lib.hid hR1
  clear hw1 hb1 hR1 K1
  go_wp2_with fail
  refine (K2.out V1 (HKP.out V1 E1.out)).mono ?_
  rintro e V2 ⟨v2, rfl, hw2, hb2⟩
  obtain ⟨A2, c2, rfl, hR2⟩ : ∃ WA cw, v2 = .slice WA nw cw ∧ RdI V2 .i64 WA ws := by
    have h : V2.ownsRow V1.heap.size 3 1 v2 nw ((rowL z nw).map (Value.int .i64)) := hw2
    rw [HWS.out] at h
    have h2 := ownR_rd (ownR_len h HWN.out) (fun i hi => by have := HZ.out i (by rw [← HWN.out]; exact hi); exact wfi this.1 (by omega))
    rw [HWN.out] at h2
    exact h2
  have E2 := Lib.hid (E1.out.trans (hb2.mono E1.out.size))
  have KE := Lib.hid (equal_int_n A1 A2 c1 c2 nw ws V2 HWN.out (HR1.out.kept hb2) hR2 (by omega))
  clear hw2 hb2 hR2 K2 HR1
  go_wp2_with fail
  refine KE.out.mono ?_
  rintro e V3 HH
  obtain ⟨rfl, H3⟩ := HH
  have E3 : Hid (Below w.heap.size w V3) := Lib.hid (by first | (obtain ⟨q, rfl⟩ := H3; exact below_drewN E2.out q) | (rw [← H3]; exact E2.out) | (rw [H3]; exact E2.out))
  clear H3 KE
  go_wp2_with fail
  refine (K3.out V3 (HKP.out V3 E3.out)).mono ?_
  rintro e V4 ⟨rfl, hb4⟩
  have E4 := Lib.hid (E3.out.trans (hb4.mono E3.out.size))
  clear hb4 K3
  go_wp2_with fail
  refine (K4.out V4 (HKP.out V4 E4.out)).mono ?_
  rintro e V5 ⟨rfl, hb5⟩
  have E5 := Lib.hid (E4.out.trans (hb5.mono E4.out.size))
  clear hb5 K4
  go_wp2_with fail
  refine (alive16_any _).mono ?_
  rintro e V6 ⟨rfl, hb6⟩
  have E6 := Lib.hid (E5.out.trans (hb6.mono E5.out.size))
  clear hb6
  go_wp2_with fail
  go_ret
  exact ⟨rfl, E6.out⟩

end Go.Proofs.YtkonghjmipclmaaDoor.colsLay
