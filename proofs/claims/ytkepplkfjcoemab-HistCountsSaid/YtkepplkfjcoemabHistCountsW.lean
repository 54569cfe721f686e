/- The walk of HistCounts: it answers true for every input, and leaves all old blocks as they were. No condition. -/
import Derived.Test.YtkepplkfjcoemabRows
import Derived.Test.YtkepplkfjcoemabRowKit
import Derived.Test.YtkepplkfjcoemabSlicesEq
import Derived.Test.YtkepplkfjcoemabSlicesEqM
import Derived.Test.YtkepplkfjcoemabRowL
import Derived.Test.YtkepplkfjcoemabPickMath
import Derived.Test.YtkepplkfjcoemabHistA
import Derived.Test.YtkepplkfjcoemabHistB
import Derived.WalkKit
import Derived.ProofKit
import Derived.OpenShut
import Derived.Deep.QuietTactic
import Derived.BigQuiet
import Derived.Lib.SmallJoins
import Derived.Lib.Hide
import Derived.WalkSpells
import Derived.WalkLawsBesides
import Derived.IntWalk
import Derived.Laws.OwnMore
import Derived.Laws.MakeOwn
namespace Go.Proofs.Ytkepplkfjcoemab.histCounts
open Go.ChangeShapes Go.WideShapes Go.ChangeAt Go.RowKit Go.Joins
set_option linter.unusedSimpArgs false
set_option linter.unusedVariables false

theorem rdI_dn {w : World} {k : IntKind} {A : Option Addr} {zs : List Int} (h : RdI w k A zs) (n : Nat) : RdI (w.drewN n) k A zs := h
theorem equal_in (A B : Option Addr) (c d n : Nat) (ys : List Int) (w : World) (hn : ys.length = n) (ha : RdI w .i64 A ys) (hb : RdI w .i64 B ys) (hl : n ≤ 9223372036854775807) :
    Calls Try.prog 50 #[.slice A n c, .slice B n d] w fun e w' => e = .returned (.bool true) ∧ ∃ k, w' = w.drewN k := by
  subst hn; exact equal_int A B c d ys w ha hb hl
set_option maxHeartbeats 1000000 in
theorem walk_big (b d : Int) (A : Option Addr) (c m : Nat) (w : World) (h : 200 < m) :
    Calls Try.prog 13 #[.int .i64 b, .int .i64 d, .slice A m c] w fun e w' => e = .returned (.bool true) ∧ Below w.heap.size w w' := by
  go_enter Try.func13, Try.ntmps13
  go_wp2_with fail
  go_ret
  exact ⟨rfl, Below.refl _ _⟩
set_option maxHeartbeats 1000000 in
theorem walk_bad (b d : Int) (A : Option Addr) (c m : Nat) (w : World) (hm : m ≤ 200) (h : ¬ HR b d) :
    Calls Try.prog 13 #[.int .i64 b, .int .i64 d, .slice A m c] w fun e w' => e = .returned (.bool true) ∧ Below w.heap.size w w' := by
  have H1 := Lib.hid (fun w => hof_bad b d A m c w h)
  have hd : decide (1 ≤ b ∧ b ≤ 64 ∧ 1 ≤ d ∧ d ≤ 4096) = false := decide_eq_false h
  have D := Lib.hid hd
  have H2 := Lib.hid (fun w => hlright_any b d w)
  have H3 := Lib.hid (fun w => hright_any b d w)
  have H4 := fun w => hbin_any b d 1 w (by omega)
  rw [(bin_no (n := 1) h).1, (bin_no (n := 1) h).2] at H4
  have H4 := Lib.hid H4
  clear h hd
  go_enter Try.func13, Try.ntmps13
  go_wp2_with (first
    | (go_at_call 44; refine (H1.out _).mono ?_; rintro e w' ⟨rfl, rfl⟩)
    | (go_at_call 45; refine (H2.out _).mono ?_; rintro e w' ⟨rfl, rfl⟩; rw [D.out])
    | (go_at_call 47; refine (H3.out _).mono ?_; rintro e w' ⟨rfl, rfl⟩; rw [D.out])
    | (go_at_call 46; refine (H4.out _).mono ?_; rintro e w' ⟨rfl, rfl⟩)
    | (go_at_call 48; refine (hialive _).mono ?_; rintro e w1 ⟨rfl, hb⟩))
  go_ret
  exact ⟨rfl, hb⟩
set_option maxRecDepth 100000 in
set_option maxHeartbeats 4000000 in
theorem walk_nn (n : Nat) (d : Int) (A : Option Addr) (c : Nat) (zs : List Int) (w : World) (h : HR n d) (hr : RdI w .i64 A zs) (hl : zs.length ≤ 200) (hn : NN zs) :
    Calls Try.prog 13 #[.int .i64 n, .int .i64 d, .slice A zs.length c] w fun e w' => e = .returned (.bool true) ∧ Below w.heap.size w w' := by
  obtain ⟨i0, hi, hz0, hz1, hz2⟩ := info_parts infoI
  have H1 := Lib.hid (hof_ok n d A c zs w h hr (by omega) hn)
  have H2 := Lib.hid (fun w => hlright_any n d w)
  have H3 := Lib.hid (fun w => hright_any n d w)
  have hd : decide (1 ≤ (n : Int) ∧ (n : Int) ≤ 64 ∧ 1 ≤ d ∧ d ≤ 4096) = true := decide_eq_true h
  have D := Lib.hid hd
  have n1 := h.1
  have n2 := h.2.1
  have HB := Lib.hid (fun (x : Int) w (hx : x ≤ 9223372036854775807) => hbin_any n d x w hx)
  have HL := Lib.hid (fun (x : Int) w (h0 : 0 ≤ x) (hx : x ≤ 9223372036854775807) => lbin_any n d x w h h0 hx)
  have HX := Lib.hid (fun (x : Int) (hx : 0 ≤ x) => And.intro (bNat_lt h hx) (bin_ok h hx).2)
  have HS := Lib.hid (cnt_sum h hn zs.length (Nat.le_refl _))
  have HN := Lib.hid hn
  have HZ := Lib.hid (zeros_row n)
  have CB := Lib.hid (cnt_bd n d zs)
  have CW := Lib.hid (cnt_wf n d zs zs.length (by omega))
  have CN : Hid (NN (rowL (cnt n d zs zs.length) n)) := Lib.hid fun i hi => by rw [rowL_len] at hi; rw [rowL_at _ hi]; exact (cnt_bd n d zs zs.length i).1
  have WF : Hid (∀ i, i < zs.length → zat zs i ≤ 9223372036854775807) := Lib.hid fun i hi => by obtain ⟨_, _, _, _, hw⟩ := hr i hi; exact (bounds_i64 hw).2
  have HR0 := Lib.hid hr
  clear h hd hn hr
  go_enter Try.func13, Try.ntmps13
  go_wp2_with fail
  refine H1.out.mono ?_
  rintro e w1 ⟨G, gc, rfl, hG, hb1⟩
  have HG := Lib.hid hG
  have HB1 := Lib.hid hb1
  have hsz := hb1.size
  clear hG hb1
  go_wp2_with (first
    | (go_at_call 45; refine (H2.out _).mono ?_; rintro e w' ⟨rfl, rfl⟩; rw [D.out])
    | (at_make; refine wpList_make_full _ rfl _ _ 56 rfl w1.heap.size 3 i0 (.int .i64 0) 1 Try.underlying56 hi hz0 hz1 _ _ _ _ n rfl rfl (by omega) (by omega) (by rw [hz2]; omega) (by unfold maxLen; omega) (Nat.le_refl _) ?_; intro w0 hown0 hgrow0))
  rw [HZ.out] at hown0
  have hb0 : Below w1.heap.size w1 w0 := (Below.refl _ _).grown hgrow0 (Nat.le_refl _) (fun k h => by cases h)
  have HO := Lib.hid hown0
  have HBl := Lib.hid hb0
  clear hgrow0 hown0 hb0
  go_wp2_with fail
  go_loopw [12, 13] (fun f i wr => ∃ k : Nat, k ≤ zs.length ∧ i = .int .i64 k ∧ f = .bool false ∧ wr.ownsRow w1.heap.size 3 1 (.slice (some ⟨w1.heap.size, 0, none⟩) n n) n ((rowL (cnt n d zs k) n).map (Value.int .i64)) ∧ Below w1.heap.size w1 wr) (fun _ i _ => zs.length - (intOf i).toNat)
  case atStart => exact ⟨0, by omega, rfl, rfl, HO.out, HBl.out⟩
  case round =>
    obtain ⟨k, hk, rfl, rfl, hown, hb⟩ := hrel
    by_cases hkl : k < zs.length
    · obtain ⟨b, off, rfl, hlt, hc⟩ := rdI_row (HR0.out.kept HB1.out) (by omega)
      have c1 := (hb.cell (p := ⟨b, off + k, none⟩) hlt).trans (hc k hkl)
      have hx0 := HN.out k hkl
      have hx1 := WF.out k hkl
      obtain ⟨⟨y1, y2⟩, y3⟩ := HX.out _ hx0
      have hB := HB.out (zat zs k)
      rw [y2, y3] at hB
      have hB := Lib.hid hB
      have hL := HL.out (zat zs k)
      rw [y2] at hL
      have hL := Lib.hid hL
      have c2 := ownR_cell hown y1
      have f2 := hown.frozenAt (bNat n d (zat zs k))
      have b1 := CB.out k (bNat n d (zat zs k))
      have S := Lib.hid (fun u => cnt_put (u := u) hown hx0 rfl)
      obtain ⟨j, hj⟩ : ∃ j, bNat n d (zat zs k) = j := ⟨_, rfl⟩
      rw [hj] at y1 hB hL c2 f2 b1 S
      obtain ⟨y, hy⟩ : ∃ y, cnt n d zs k j = y := ⟨_, rfl⟩
      rw [hy] at c2 b1 S
      obtain ⟨x, hx⟩ : ∃ x, zat zs k = x := ⟨_, rfl⟩
      rw [hx] at c1 hx0 hx1 hB hL
      have HB3 := Lib.hid hb
      clear hc y2 y3 hj hy hx hown hb
      go_wp2_with (first
        | (go_at_call 46; refine (hB.out _ hx1).mono ?_; rintro e w' ⟨rfl, rfl⟩)
        | (go_at_call 49; refine (hL.out _ hx0 hx1).mono ?_; rintro e w' ⟨rfl, rfl⟩))
      go_roundw
      case rel => exact ⟨k + 1, by omega, by go_num, rfl, S.out _ rfl, HB3.out.setCell (Nat.le_refl _) _⟩
      case measure => simp [intOf]; omega
    · obtain rfl : k = zs.length := by omega
      obtain ⟨B, cc, hv, hR⟩ := ownR_rd (ownR_len hown (rowL_len _ _)) CW.out
      rw [rowL_len] at hv
      cases hv
      have LN := Lib.hid (rowL_len (cnt n d zs zs.length) n)
      have R2 := Lib.hid hR
      have R1 := Lib.hid (HG.out.kept hb)
      have HB3 := Lib.hid (HB1.out.trans (hb.mono hsz))
      obtain ⟨gb, go, eG, _⟩ := rdI_row R1.out (by rw [LN.out]; omega)
      subst eG
      have HTo := fun w' (hw' : RdI w' .i64 (some ⟨gb, go, none⟩) (rowL (cnt n d zs zs.length) n)) => htotal_any gb go gc (rowL (cnt n d zs zs.length) n) w' hw' (by rw [LN.out]; omega) (by rw [LN.out]; omega) CN.out (by rw [LN.out, HS.out]; omega)
      rw [LN.out, HS.out] at HTo
      have HTo := Lib.hid HTo
      clear hown hR hb
      go_wp2_with fail
      refine (equal_in (some ⟨gb, go, none⟩) (some ⟨w1.heap.size, 0, none⟩) gc n n _ _ LN.out R1.out R2.out (by omega)).mono ?_
      rintro e w' ⟨rfl, q, rfl⟩
      go_wp2_with (first
        | (go_at_call 47; refine (H3.out _).mono ?_; rintro e w' ⟨rfl, rfl⟩; rw [D.out])
        | (go_at_call 51; refine (HTo.out _ (rdI_dn R1.out _)).mono ?_; rintro e w' ⟨rfl, rfl⟩)
        | (go_at_call 48; refine (hialive _).mono ?_; rintro e w4 ⟨rfl, hb4⟩))
      go_ret
      exact ⟨rfl, (below_drewN HB3.out q).trans (hb4.mono HB3.out.size)⟩
set_option maxRecDepth 100000 in
set_option maxHeartbeats 4000000 in
theorem walk_neg (n : Nat) (d : Int) (b off c : Nat) (zs : List Int) (w : World) (h : HR n d) (hr : RdI w .i64 (some ⟨b, off, none⟩) zs) (hl : zs.length ≤ 200) (m : Nat) (hm : m < zs.length) (hneg : zat zs m < 0) (hbef : ∀ j, j < m → 0 ≤ zat zs j) :
    Calls Try.prog 13 #[.int .i64 n, .int .i64 d, .slice (some ⟨b, off, none⟩) zs.length c] w fun e w' => e = .returned (.bool true) ∧ Below w.heap.size w w' := by
  obtain ⟨i0, hi, hz0, hz1, hz2⟩ := info_parts infoI
  have H1 := Lib.hid (hof_neg n d b off c zs w h hr (by omega) m hm hneg hbef)
  have H2 := Lib.hid (fun w => hlright_any n d w)
  have hd : decide (1 ≤ (n : Int) ∧ (n : Int) ≤ 64 ∧ 1 ≤ d ∧ d ≤ 4096) = true := decide_eq_true h
  have D := Lib.hid hd
  have n1 := h.1
  have n2 := h.2.1
  have HB := Lib.hid (fun (x : Int) w (hx : x ≤ 9223372036854775807) => hbin_any n d x w hx)
  have HL := Lib.hid (fun (x : Int) w (h0 : 0 ≤ x) (hx : x ≤ 9223372036854775807) => lbin_any n d x w h h0 hx)
  have HX := Lib.hid (fun (x : Int) (hx : 0 ≤ x) => And.intro (bNat_lt h hx) (bin_ok h hx).2)
  have HY := Lib.hid (fun (x : Int) (hx : x < 0) => bin_neg h hx)
  have HF : Hid (∀ k, zat zs k < 0 → m ≤ k) := Lib.hid fun k hk => by
    rcases Nat.lt_or_ge k m with h1 | h1
    · have := hbef k h1; omega
    · exact h1
  have HM := Lib.hid hneg
  have HZ := Lib.hid (zeros_row n)
  have CB := Lib.hid (cnt_bd n d zs)
  have CS := Lib.hid (fun k (hk : zat zs k < 0) => cnt_skip (n := n) (d := d) (zs := zs) hk)
  have WF : Hid (∀ i, i < zs.length → zat zs i ≤ 9223372036854775807) := Lib.hid fun i hi => by obtain ⟨_, _, _, _, hw⟩ := hr i hi; exact (bounds_i64 hw).2
  have HR0 := Lib.hid hr
  clear h hd hneg hbef hr
  go_enter Try.func13, Try.ntmps13
  go_wp2_with fail
  refine H1.out.mono ?_
  rintro e w1 ⟨rfl, hb1⟩
  have HB1 := Lib.hid hb1
  have hsz := hb1.size
  clear hb1
  go_wp2_with (first
    | (go_at_call 45; refine (H2.out _).mono ?_; rintro e w' ⟨rfl, rfl⟩; rw [D.out])
    | (at_make; refine wpList_make_full _ rfl _ _ 56 rfl w1.heap.size 3 i0 (.int .i64 0) 1 Try.underlying56 hi hz0 hz1 _ _ _ _ n rfl rfl (by omega) (by omega) (by rw [hz2]; omega) (by unfold maxLen; omega) (Nat.le_refl _) ?_; intro w0 hown0 hgrow0))
  rw [HZ.out] at hown0
  have hb0 : Below w1.heap.size w1 w0 := (Below.refl _ _).grown hgrow0 (Nat.le_refl _) (fun k h => by cases h)
  have HO := Lib.hid hown0
  have HBl := Lib.hid hb0
  clear hgrow0 hown0 hb0
  go_wp2_with fail
  go_loopw [12, 13] (fun f i wr => ∃ k : Nat, k ≤ zs.length ∧ i = .int .i64 k ∧ f = .bool (decide (m < k)) ∧ wr.ownsRow w1.heap.size 3 1 (.slice (some ⟨w1.heap.size, 0, none⟩) n n) n ((rowL (cnt n d zs k) n).map (Value.int .i64)) ∧ Below w1.heap.size w1 wr) (fun _ i _ => zs.length - (intOf i).toNat)
  case atStart => exact ⟨0, by omega, rfl, by simp, HO.out, HBl.out⟩
  case round =>
    obtain ⟨k, hk, rfl, rfl, hown, hb⟩ := hrel
    by_cases hkl : k < zs.length
    · obtain ⟨b', off', e', hlt, hc⟩ := rdI_row (HR0.out.kept HB1.out) (by omega)
      cases e'
      have c1 := (hb.cell (p := ⟨b, off + k, none⟩) hlt).trans (hc k hkl)
      have hx1 := WF.out k hkl
      by_cases hx0 : 0 ≤ zat zs k
      · have hmk : decide (m < k + 1) = decide (m < k) := by
          by_cases e : m = k
          · subst e; have := HM.out; omega
          · by_cases e2 : m < k
            · rw [decide_eq_true e2, decide_eq_true (by omega)]
            · rw [decide_eq_false e2, decide_eq_false (by omega)]
        have MK := Lib.hid hmk
        obtain ⟨fl, hfl⟩ : ∃ fl, decide (m < k) = fl := ⟨_, rfl⟩
        rw [hfl] at MK
        rw [hfl]
        obtain ⟨⟨y1, y2⟩, y3⟩ := HX.out _ hx0
        have hB := HB.out (zat zs k)
        rw [y2, y3] at hB
        have hB := Lib.hid hB
        have hL := HL.out (zat zs k)
        rw [y2] at hL
        have hL := Lib.hid hL
        have c2 := ownR_cell hown y1
        have f2 := hown.frozenAt (bNat n d (zat zs k))
        have b1 := CB.out k (bNat n d (zat zs k))
        have S := Lib.hid (fun u => cnt_put (u := u) hown hx0 rfl)
        obtain ⟨j, hj⟩ : ∃ j, bNat n d (zat zs k) = j := ⟨_, rfl⟩
        rw [hj] at y1 hB hL c2 f2 b1 S
        obtain ⟨y, hy⟩ : ∃ y, cnt n d zs k j = y := ⟨_, rfl⟩
        rw [hy] at c2 b1 S
        obtain ⟨x, hx⟩ : ∃ x, zat zs k = x := ⟨_, rfl⟩
        rw [hx] at c1 hx0 hx1 hB hL
        have HB3 := Lib.hid hb
        clear hc y2 y3 hj hy hx hown hb hfl hmk
        go_wp2_with (first
          | (go_at_call 46; refine (hB.out _ hx1).mono ?_; rintro e w' ⟨rfl, rfl⟩)
          | (go_at_call 49; refine (hL.out _ hx0 hx1).mono ?_; rintro e w' ⟨rfl, rfl⟩))
        go_roundw
        case rel => exact ⟨k + 1, by omega, by go_num, by rw [MK.out], S.out _ rfl, HB3.out.setCell (Nat.le_refl _) _⟩
        case measure => simp [intOf]; omega
      · have hx2 : zat zs k < 0 := by omega
        have MK : Hid (decide (m < k + 1) = true) := Lib.hid (decide_eq_true (by have := HF.out k hx2; omega))
        obtain ⟨y2, y3⟩ := HY.out _ hx2
        have hB := HB.out (zat zs k)
        rw [y2, y3] at hB
        have hB := Lib.hid hB
        have S := Lib.hid hown
        have SK := Lib.hid (CS.out k hx2)
        obtain ⟨fl, hfl⟩ : ∃ fl, decide (m < k) = fl := ⟨_, rfl⟩
        rw [hfl]
        obtain ⟨x, hx⟩ : ∃ x, zat zs k = x := ⟨_, rfl⟩
        rw [hx] at c1 hx0 hx1 hx2 hB
        have HB3 := Lib.hid hb
        clear hc y2 y3 hx hown hb hfl hx0
        go_wp2_with (go_at_call 46; refine (hB.out _ hx1).mono ?_; rintro e w' ⟨rfl, rfl⟩)
        go_roundw
        case rel => exact ⟨k + 1, by omega, by go_num, by rw [MK.out], by rw [SK.out]; exact S.out, HB3.out⟩
        case measure => simp [intOf]; omega
    · obtain rfl : k = zs.length := by omega
      rw [decide_eq_true hm]
      have HB3 := Lib.hid (HB1.out.trans (hb.mono hsz))
      clear hown hb
      go_wp2_with (go_at_call 48; refine (hialive _).mono ?_; rintro e w4 ⟨rfl, hb4⟩)
      go_ret
      exact ⟨rfl, HB3.out.trans (hb4.mono HB3.out.size)⟩
theorem walk {b d : Int} {A : Option Addr} {c : Nat} {zs : List Int} (hb : (Lit.int .i64 b).wf = true) (hd : (Lit.int .i64 d).wf = true) (hlc : zs.length ≤ c) (hm : c ≤ maxLen) {w : World} (hr : RdI w .i64 A zs) :
    Calls Try.prog 13 #[.int .i64 b, .int .i64 d, .slice A zs.length c] w fun e w' => e = .returned (.bool true) ∧ Below w.heap.size w w' := by
  by_cases hl : zs.length ≤ 200
  · by_cases h : HR b d
    · obtain ⟨n, rfl⟩ := Int.eq_ofNat_of_zero_le (show 0 ≤ b by have := h.1; omega)
      by_cases hn : NN zs
      · exact walk_nn n d A c zs w h hr hl hn
      · obtain ⟨m, h1, h2, h3⟩ := not_nn hn
        obtain ⟨bb, off, rfl, _⟩ := rdI_row hr (by omega)
        exact walk_neg n d bb off c zs w h hr hl m h1 h2 h3
    · exact walk_bad b d A c zs.length w hl h
  · exact walk_big b d A c zs.length w (by omega)

end Go.Proofs.Ytkepplkfjcoemab.histCounts
