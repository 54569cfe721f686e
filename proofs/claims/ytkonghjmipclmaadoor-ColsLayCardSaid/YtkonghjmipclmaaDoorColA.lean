/- Columns: a row as a line. -/
import Derived.Test.YtkonghjmipclmaaDoorRows
import Derived.Test.YtkonghjmipclmaaDoorRowKit
import Derived.Test.YtkonghjmipclmaaDoorShelf
import Derived.Test.YtkonghjmipclmaaDoorBlocks
import Derived.Test.YtkonghjmipclmaaDoorSlicesEq
import Derived.Test.YtkonghjmipclmaaDoorRowT
import Derived.Test.YtkonghjmipclmaaDoorDigE
import Derived.Test.YtkonghjmipclmaaDoorBuA
import Derived.Test.YtkonghjmipclmaaDoorColM
import Derived.WalkKit
import Derived.IntWalk
import Derived.Lib.Hide
import Derived.WalkSpells
import Derived.WalkLawsBesides
import Derived.Laws.IdiomStrings
import Derived.Laws.OwnMore
import Derived.OwnWalk
import Derived.Deep.QuietTactic
import Derived.BigQuiet
import Derived.BigRegion
import Derived.Deep.LoopGhost
namespace Go.Proofs.YtkonghjmipclmaaDoor
open Go.RowKit Go.Sort
set_option linter.unusedSimpArgs false
set_option linter.unusedVariables false
def byC (tb : Nat → ByteArray) (i : Nat) : List UInt8 := (tb i).data.toList
theorem byC_eq (tb : Nat → ByteArray) (i : Nat) : tb i = bL (byC tb i) := by unfold bL byC; simp
theorem byC_len (tb : Nat → ByteArray) (i : Nat) : (byC tb i).length = (tb i).size := rfl
theorem retC {a b : Int} (h : a = b) : Ending.returned (.int .i64 a) = .returned (.int .i64 b) := by rw [h]
theorem rep32 (k : Nat) : Lib.repeatL [32] k = List.replicate k 32 := by
  have h := Lib.repeatL_replicate 32 1 k
  rw [Nat.mul_one] at h
  exact h
set_option maxRecDepth 100000 in
set_option maxHeartbeats 4000000 in
theorem lacks_any (W : Option Addr) (cw nw i : Nat) (ws : List Int) (t : Nat → List UInt8) (s : ByteArray) (w : World) (hn : ws.length = nw) (hi : i ≤ 100000) (hW : RdI w .i64 W ws) (hs : s.size = (t i).length) (hl : s.size ≤ 100000) (hw : ∀ j, j < nw → zat ws j ≤ 1000) :
    Calls Tryd.prog 26 #[.slice W nw cw, .int .i64 i, .string s] w fun e w' => e = .returned (.int .i64 (lkC (zat ws) nw t i : Nat)) ∧ w' = w := by
  unfold lkC
  by_cases h : i < nw
  · have hii : (i : Int) < (nw : Int) := by omega
    obtain ⟨b, o, rfl, _, hc⟩ := rdI_row hW (by omega)
    have c00 := hc i (by omega)
    have hx := hw i h
    have hwf := (hW i (by omega)).choose_spec.2.2.2
    have hb := bounds_i64 hwf
    rw [if_pos h]
    obtain ⟨x, hxx⟩ : ∃ x, zat ws i = x := ⟨_, rfl⟩
    rw [hxx] at hx hb ⊢
    have c0 : w.cell? ⟨b, o + i, none⟩ = some (.int .i64 x) := by rw [← hxx]; exact c00
    clear c00
    have hg : ¬ 2147483647 < x := by omega
    rw [← hs]
    obtain ⟨r, hr⟩ : ∃ r : Nat, (x - (s.size : Int)).toNat = r := ⟨_, rfl⟩
    rw [hr]
    have HR : Hid (max x (s.size : Int) - (s.size : Int) = (r : Int)) := Lib.hid (by omega)
    have HS := Lib.hid hs
    clear hc hwf hw hr hxx
    go_enter Tryd.func26, Tryd.ntmps26
    go_wp2_with fail
    go_ret
    exact ⟨retC (by have := HR.out; have := HS.out; omega), rfl⟩
  · have hii : ¬ (i : Int) < (nw : Int) := by omega
    have hii2 : (nw : Int) ≤ (i : Int) := by omega
    rw [if_neg h]
    clear hW hw
    go_enter Tryd.func26, Tryd.ntmps26
    go_wp2_with fail
    go_ret
    exact ⟨rfl, rfl⟩
set_option maxRecDepth 100000 in
set_option maxHeartbeats 20000000 in
theorem line_any (A W : Option Addr) (ca cw n nw : Nat) (tb : Nat → ByteArray) (ws : List Int) (w : World) (hn : ws.length = nw) (h30 : n ≤ 30) (hnw : nw ≤ 1000) (hA : RdT w A n tb) (hW : RdI w .i64 W ws) (hsz : ∀ i, i < n → (tb i).size ≤ 60) (hw : ∀ j, j < nw → zat ws j ≤ 1000) :
    Calls Tryd.prog 16 #[.slice W nw cw, .slice A n ca] w fun e w' => e = .returned (.string (bL (lnC (zat ws) nw (byC tb) n))) ∧ Below w.heap.size w w' := by
  have HA := Lib.hid hA; have HSZ := Lib.hid hsz
  have KL := Lib.hid (fun (V : World) (hb : Below w.heap.size w V) (i : Nat) (hi : i < n) => lacks_any W cw nw i ws (byC tb) (tb i) V hn (by omega) (hW.kept hb) (byC_len tb i).symm (by have := hsz i hi; omega) hw)
  have HLK : Hid (∀ i, lkC (zat ws) nw (byC tb) i ≤ 1000) := Lib.hid (fun i => by
    unfold lkC
    split
    · rename_i h; have := hw i h; omega
    · omega)
  have HFL : Hid (∀ k, k ≤ n → (fuC (zat ws) nw (byC tb) k).length ≤ 33000) := Lib.hid (fun k hk => by
    have := fuC_len (wd := zat ws) (nw := nw) (t := byC tb) k (fun i hi => ⟨by rw [byC_len]; exact hsz i (by omega), HLK.out i⟩)
    omega)
  obtain ⟨R, hR⟩ : ∃ R : Ending → World → Prop, (fun (e : Ending) (w' : World) => e = .returned (.string (bL (lnC (zat ws) nw (byC tb) n))) ∧ Below w.heap.size w w') = R := ⟨_, rfl⟩
  have HRR := Lib.hid hR
  rw [hR]
  have HU := Lib.hid (Bu.new w (B := w.heap.size) (Nat.le_refl _))
  have EE := Lib.hid ((Below.refl w.heap.size w).alloc (Nat.le_refl _) (.cells #[.pointer none, .slice none 0 0] 44))
  clear hA hW hsz hw hR hn
  go_enter Tryd.func16, Tryd.ntmps16
  go_wp2_with fail
  go_loopg [6, 13] n (fun gh bv iv wr => ∃ (k b : Nat) (L : List UInt8), k ≤ n ∧ gh = n - k ∧ iv = .int .i64 k ∧ bv = .int .i64 b ∧ Hid (WrC (zat ws) nw (byC tb) k L b) ∧ Hid (Bu wr w.heap.size w.heap.size L) ∧ Hid (Below w.heap.size w wr))
  case atStart => exact ⟨0, 0, [], Nat.zero_le _, rfl, rfl, rfl, Lib.hid (wrC_start _ _ _), HU, EE⟩
  case round =>
    clear HU EE
    obtain ⟨k, b, L, hk, rfl, rfl, rfl, HWR, HU, EE⟩ := hrel
    rename World => V
    by_cases hkn : k < n
    · have hki : (k : Int) < (n : Int) := by omega
      obtain ⟨ba, oa, rfl, hlta, hca⟩ := rdT_row HA.out (by omega)
      have c0 := (EE.out.cell (p := ⟨ba, oa + k, none⟩) hlta).trans (hca k hkn)
      have hlk := HSZ.out k hkn
      have KK := Lib.hid (KL.out V EE.out k hkn)
      have hlen := wrC_len HWR.out
      have hfl := HFL.out k hk
      have HB0 := Lib.hid (show L.length + b ≤ 33000 by omega)
      have hlc := HLK.out k
      obtain ⟨LS, hLS⟩ : ∃ LS, byC tb k = LS := ⟨_, rfl⟩
      have hts : tb k = bL LS := by rw [← hLS]; exact byC_eq tb k
      obtain ⟨s, hs⟩ : ∃ s, tb k = s := ⟨_, rfl⟩
      have hsl : s.size = LS.length := by rw [← hs, ← hLS]; rfl
      rw [hs] at c0 hlk KK
      have KT := Tryd.strings_TrimRight_one s 32 (by decide) V (by omega)
      rw [show s.data.toList = LS by rw [← hs]; exact hLS] at KT
      have htl := tr_len LS 32
      have hW1 := fun h => wrC_text HWR.out (by rw [hLS]; exact h)
      have hW2 := fun h => wrC_none HWR.out (by rw [hLS]; exact h)
      rw [hLS] at hW1 hW2
      obtain ⟨lk, hlkk⟩ : ∃ lk, lkC (zat ws) nw (byC tb) k = lk := ⟨_, rfl⟩
      have hbf : bfC (zat ws) nw (byC tb) k b = if 0 < k then b + (2 + lk) else b := by unfold bfC; rw [hlkk]
      have hl0 : (if k = 0 then lkC (zat ws) nw (byC tb) 0 else 0) = if k = 0 then lk else 0 := by
        by_cases q : k = 0
        · rw [if_pos q, if_pos q, ← hlkk, q]
        · rw [if_neg q, if_neg q]
      rw [hbf, hl0] at hW1 hW2
      rw [hlkk] at KK hlc
      obtain ⟨T, hT⟩ : ∃ T, Lib.trimRightB LS 32 = T := ⟨_, rfl⟩
      rw [hT] at KT htl hW1 hW2
      obtain ⟨bT, hbT⟩ : ∃ bT, ByteArray.mk T.toArray = bT := ⟨_, rfl⟩
      rw [hbT] at KT
      have hTd : bT.data.toList = T := by rw [← hbT]
      have hTs : bT.size = T.length := by rw [← hbT]; exact bL_size T
      have KT := Lib.hid KT
      have HTD := Lib.hid hTd
      have HW1 := Lib.hid hW1; have HW2 := Lib.hid hW2
      have HSL := Lib.hid hsl
      have HTZ := Lib.hid hTs
      have htle : bT.size ≤ s.size := by omega
      clear hsl hTs htl
      clear hca hlen hfl hLS hts hs hbf hl0 hlkk hT hbT hTd hW1 hW2 HWR
      by_cases hk0 : k = 0
      · have HK0 := Lib.hid hk0
        have hkp : ¬ (0 : Int) < (k : Int) := by omega
        have hke : ((k : Int) == 0) = true := by rw [beq_iff_eq]; omega
        clear hk0
        by_cases hT0 : T = []
        · have hz0 : bT.size = 0 := by rw [HTZ.out, hT0]; rfl
          have hcmp : (bT.toList == []) = true := by rw [ByteArray.toList_eq, HTD.out, hT0]; rfl
          have hbe : bT = ByteArray.empty := by
            apply ByteArray.ext
            apply Array.ext'
            rw [HTD.out, hT0]; rfl
          obtain ⟨df, hdf⟩ : ∃ df, s.size - bT.size = df := ⟨_, rfl⟩
          obtain ⟨e1, he1⟩ : ∃ e1, b + df = e1 := ⟨_, rfl⟩
          have D1 : Hid (IntKind.i64.wrap ((s.size : Int) - (bT.size : Int)) = (df : Int)) := Lib.hid (by rw [IntWalk.i64_in _ (by omega)]; omega)
          have D2 : Hid (wrap64 ((s.size : Int) - (bT.size : Int)) = (df : Int)) := Lib.hid (by rw [IntWalk.wrap64_in _ (by omega)]; omega)
          have D3 : Hid (IntKind.i64.wrap ((b : Nat) + (df : Int)) = (e1 : Int)) := Lib.hid (by rw [IntWalk.i64_in _ (by have := HB0.out; omega)]; omega)
          have D4 : Hid (wrap64 ((b : Nat) + (df : Int)) = (e1 : Int)) := Lib.hid (by rw [IntWalk.wrap64_in _ (by have := HB0.out; omega)]; omega)
          have D5 : Hid (IntKind.i64.wrap (df : Int) = (df : Int)) := Lib.hid (IntWalk.i64_in _ (by omega))
          have D6 : Hid (wrap64 (df : Int) = (df : Int)) := Lib.hid (IntWalk.wrap64_in _ (by omega))
          obtain ⟨e2, he2⟩ : ∃ e2, e1 + lk = e2 := ⟨_, rfl⟩
          have D7 : Hid (IntKind.i64.wrap ((e1 : Int) + (lk : Int)) = (e2 : Int)) := Lib.hid (by rw [IntWalk.i64_in _ (by have := HB0.out; omega)]; omega)
          have D8 : Hid (wrap64 ((e1 : Int) + (lk : Int)) = (e2 : Int)) := Lib.hid (by rw [IntWalk.wrap64_in _ (by have := HB0.out; omega)]; omega)

          have EQ : Hid (wrap64 (wrap64 ((b : Int) + (s.size : Int)) + (lk : Int)) = (e2 : Int)) := Lib.hid (by have h1 : wrap64 ((b : Int) + (s.size : Int)) = ((b + s.size : Nat) : Int) := by { rw [IntWalk.wrap64_in _ (by have := HB0.out; omega)]; omega }; rw [h1]; clear h1; rw [IntWalk.wrap64_in _ (by have := HB0.out; omega)]; omega)
          have HWN : Hid (WrC (zat ws) nw (byC tb) (k + 1) L e2) := Lib.hid (by
            have h := HW2.out hT0
            rw [if_neg (by have := HK0.out; omega), if_pos HK0.out, ← HSL.out] at h
            rw [show e2 = b + s.size + lk by omega]; exact h)
          clear HW1 HW2 hz0 hdf he1 he2
          go_wp2_with fail
          refine KK.out.mono ?_
          rintro e V1 ⟨rfl, hV⟩
          replace hV := hV.symm
          subst hV
          skip
          go_wp2_with fail
          skip
          refine KT.out.mono ?_
          rintro e V1 ⟨rfl, hV⟩
          replace hV := hV.symm
          subst hV
          subst hbe
          have d1 := D1.out; have d2 := D2.out; have d3 := D3.out; have d4 := D4.out; have d5 := D5.out; have d6 := D6.out; have d7 := D7.out; have d8 := D8.out
          go_wp2_with fail
          clear d1 d2 d3 d4 d5 d6 d7 d8
          go_roundg (n - (k + 1))
          case measure => omega
          case rel => exact ⟨k + 1, e2, L, by omega, rfl, by go_num, congrArg (Value.int .i64) EQ.out, HWN, HU, EE⟩
        · have hcmp : (bT.toList == []) = false := by rw [ByteArray.toList_eq, HTD.out]; rw [beq_eq_false_iff_ne]; exact hT0
          have hTne : bT.size ≠ 0 := by rw [HTZ.out]; intro q; exact hT0 (List.length_eq_zero_iff.1 q)
          have hbe : ¬ bT = ByteArray.empty := fun q => hTne (by rw [q]; rfl)
          obtain ⟨df, hdf⟩ : ∃ df, s.size - bT.size = df := ⟨_, rfl⟩
          obtain ⟨e1, he1⟩ : ∃ e1, 0 + df = e1 := ⟨_, rfl⟩
          have D1 : Hid (IntKind.i64.wrap ((s.size : Int) - (bT.size : Int)) = (df : Int)) := Lib.hid (by rw [IntWalk.i64_in _ (by omega)]; omega)
          have D2 : Hid (wrap64 ((s.size : Int) - (bT.size : Int)) = (df : Int)) := Lib.hid (by rw [IntWalk.wrap64_in _ (by omega)]; omega)
          have D3 : Hid (IntKind.i64.wrap (0 + (df : Int)) = (e1 : Int)) := Lib.hid (by rw [IntWalk.i64_in _ (by have := HB0.out; omega)]; omega)
          have D4 : Hid (wrap64 (0 + (df : Int)) = (e1 : Int)) := Lib.hid (by rw [IntWalk.wrap64_in _ (by have := HB0.out; omega)]; omega)
          have D5 : Hid (IntKind.i64.wrap (df : Int) = (df : Int)) := Lib.hid (IntWalk.i64_in _ (by omega))
          have D6 : Hid (wrap64 (df : Int) = (df : Int)) := Lib.hid (IntWalk.wrap64_in _ (by omega))
          obtain ⟨e2, he2⟩ : ∃ e2, e1 + lk = e2 := ⟨_, rfl⟩
          have D7 : Hid (IntKind.i64.wrap ((e1 : Int) + (lk : Int)) = (e2 : Int)) := Lib.hid (by rw [IntWalk.i64_in _ (by have := HB0.out; omega)]; omega)
          have D8 : Hid (wrap64 ((e1 : Int) + (lk : Int)) = (e2 : Int)) := Lib.hid (by rw [IntWalk.wrap64_in _ (by have := HB0.out; omega)]; omega)

          have EQ : Hid (wrap64 ((df : Int) + (lk : Int)) = (e2 : Int)) := Lib.hid (by rw [IntWalk.wrap64_in _ (by have := HB0.out; omega)]; omega)
          have HWN : Hid (WrC (zat ws) nw (byC tb) (k + 1) (L ++ List.replicate b 32 ++ T) e2) := Lib.hid (by
            have h := HW1.out hT0
            rw [if_neg (by have := HK0.out; omega), if_pos HK0.out, ← HSL.out, ← HTZ.out] at h
            rw [show e2 = s.size - bT.size + lk by omega]; exact h)
          have KR := Lib.hid (Tryd.strings_Repeat (ByteArray.mk #[32]) b V (by have := HB0.out; omega) (by show 1 * b ≤ _; have := HB0.out; omega))
          obtain ⟨bR, hbR⟩ : ∃ bR, ByteArray.mk (Lib.repeatL (ByteArray.mk #[32]).data.toList b).toArray = bR := ⟨_, rfl⟩
          rw [hbR] at KR
          have hRd : bR.data.toList = List.replicate b 32 := by rw [← hbR]; exact rep32 b
          have hRs : bR.size = b := by
            have e : bR.size = bR.data.toList.length := rfl
            rw [e, hRd, List.length_replicate]
          have HRD := Lib.hid hRd; have HRS := Lib.hid hRs
          have HTS := Lib.hid (show bT.size ≤ 60 by omega)
          clear HW1 HW2 hdf he1 he2 hbR hRd hRs hT0
          go_wp2_with fail
          refine KK.out.mono ?_
          rintro e V1 ⟨rfl, hV⟩
          replace hV := hV.symm
          subst hV
          skip
          go_wp2_with fail
          skip
          refine KT.out.mono ?_
          rintro e V1 ⟨rfl, hV⟩
          replace hV := hV.symm
          subst hV
          go_wp2_with fail
          refine KR.out.mono ?_
          rintro e V2 ⟨rfl, hb⟩
          have HU2 := Lib.hid (HU.out.next hb)
          have E2 := Lib.hid (EE.out.trans (hb.mono EE.out.size))
          have KW := Lib.hid (ws_any w.heap.size w.heap.size L bR V2 HU2.out (by have := HRS.out; have := HB0.out; omega) E2.out.size)
          clear hb
          go_wp2_with fail
          refine KW.out.mono ?_
          rintro e V3 ⟨rfl, hu, hb⟩
          have HU3 := Lib.hid hu
          have E3 := Lib.hid (E2.out.trans hb)
          have KW2 := Lib.hid (ws_any w.heap.size w.heap.size _ bT V3 HU3.out (by rw [List.length_append, HRD.out, List.length_replicate]; have := HTS.out; have := HB0.out; omega) E3.out.size)
          clear hu hb HU2 KW
          go_wp2_with fail
          refine KW2.out.mono ?_
          rintro e V4 ⟨rfl, hu, hb⟩
          have HU4 := Lib.hid hu
          rw [HRD.out, HTD.out] at HU4
          have E4 := Lib.hid (E3.out.trans hb)
          clear hu hb HU3 KW2
          have d1 := D1.out; have d2 := D2.out; have d3 := D3.out; have d4 := D4.out; have d5 := D5.out; have d6 := D6.out; have d7 := D7.out; have d8 := D8.out
          go_wp2_with fail
          clear d1 d2 d3 d4 d5 d6 d7 d8
          go_roundg (n - (k + 1))
          case measure => omega
          case rel => exact ⟨k + 1, e2, _, by omega, rfl, by go_num, congrArg (Value.int .i64) EQ.out, HWN, HU4, E4⟩
      · have HK0 := Lib.hid hk0
        have hkp : (0 : Int) < (k : Int) := by omega
        have hke : ((k : Int) == 0) = false := by rw [beq_eq_false_iff_ne]; omega
        obtain ⟨z, hz⟩ : ∃ z, 2 + lk = z := ⟨_, rfl⟩
        obtain ⟨b1, hb1⟩ : ∃ b1, b + z = b1 := ⟨_, rfl⟩
        have HB1 := Lib.hid (show b + (2 + lk) = b1 by omega)
        have HB2 : Hid (L.length + b1 ≤ 35000) := Lib.hid (by have := HB0.out; omega)
        have A1 : Hid (IntKind.i64.wrap (2 + (lk : Int)) = (z : Int)) := Lib.hid (by rw [IntWalk.i64_in _ (by omega)]; omega)
        have A2 : Hid (wrap64 (2 + (lk : Int)) = (z : Int)) := Lib.hid (by rw [IntWalk.wrap64_in _ (by omega)]; omega)
        have A3 : Hid (IntKind.i64.wrap ((b : Int) + (z : Int)) = (b1 : Int)) := Lib.hid (by rw [IntWalk.i64_in _ (by have := HB0.out; omega)]; omega)
        have A4 : Hid (wrap64 ((b : Int) + (z : Int)) = (b1 : Int)) := Lib.hid (by rw [IntWalk.wrap64_in _ (by have := HB0.out; omega)]; omega)
        clear hk0 hz hb1
        by_cases hT0 : T = []
        · have hz0 : bT.size = 0 := by rw [HTZ.out, hT0]; rfl
          have hcmp : (bT.toList == []) = true := by rw [ByteArray.toList_eq, HTD.out, hT0]; rfl
          have hbe : bT = ByteArray.empty := by
            apply ByteArray.ext
            apply Array.ext'
            rw [HTD.out, hT0]; rfl
          obtain ⟨df, hdf⟩ : ∃ df, s.size - bT.size = df := ⟨_, rfl⟩
          obtain ⟨e1, he1⟩ : ∃ e1, b1 + df = e1 := ⟨_, rfl⟩
          have D1 : Hid (IntKind.i64.wrap ((s.size : Int) - (bT.size : Int)) = (df : Int)) := Lib.hid (by rw [IntWalk.i64_in _ (by omega)]; omega)
          have D2 : Hid (wrap64 ((s.size : Int) - (bT.size : Int)) = (df : Int)) := Lib.hid (by rw [IntWalk.wrap64_in _ (by omega)]; omega)
          have D3 : Hid (IntKind.i64.wrap ((b1 : Nat) + (df : Int)) = (e1 : Int)) := Lib.hid (by rw [IntWalk.i64_in _ (by have := HB2.out; omega)]; omega)
          have D4 : Hid (wrap64 ((b1 : Nat) + (df : Int)) = (e1 : Int)) := Lib.hid (by rw [IntWalk.wrap64_in _ (by have := HB2.out; omega)]; omega)
          have D5 : Hid (IntKind.i64.wrap (df : Int) = (df : Int)) := Lib.hid (IntWalk.i64_in _ (by omega))
          have D6 : Hid (wrap64 (df : Int) = (df : Int)) := Lib.hid (IntWalk.wrap64_in _ (by omega))

          have EQ : Hid (wrap64 ((b1 : Int) + (s.size : Int)) = (e1 : Int)) := Lib.hid (by rw [IntWalk.wrap64_in _ (by have := HB2.out; omega)]; omega)
          have HWN : Hid (WrC (zat ws) nw (byC tb) (k + 1) L e1) := Lib.hid (by
            have h := HW2.out hT0
            rw [if_pos (by omega), if_neg HK0.out, HB1.out, ← HSL.out] at h
            rw [show e1 = b1 + s.size + 0 by omega]; exact h)
          clear HW1 HW2 hz0 hdf he1 
          go_wp2_with fail
          refine KK.out.mono ?_
          rintro e V1 ⟨rfl, hV⟩
          replace hV := hV.symm
          subst hV
          have a1 := A1.out; have a2 := A2.out; have a3 := A3.out; have a4 := A4.out
          go_wp2_with fail
          clear a1 a2 a3 a4
          refine KT.out.mono ?_
          rintro e V1 ⟨rfl, hV⟩
          replace hV := hV.symm
          subst hV
          subst hbe
          have d1 := D1.out; have d2 := D2.out; have d3 := D3.out; have d4 := D4.out; have d5 := D5.out; have d6 := D6.out
          go_wp2_with fail
          clear d1 d2 d3 d4 d5 d6
          go_roundg (n - (k + 1))
          case measure => omega
          case rel => exact ⟨k + 1, e1, L, by omega, rfl, by go_num, congrArg (Value.int .i64) EQ.out, HWN, HU, EE⟩
        · have hcmp : (bT.toList == []) = false := by rw [ByteArray.toList_eq, HTD.out]; rw [beq_eq_false_iff_ne]; exact hT0
          have hTne : bT.size ≠ 0 := by rw [HTZ.out]; intro q; exact hT0 (List.length_eq_zero_iff.1 q)
          have hbe : ¬ bT = ByteArray.empty := fun q => hTne (by rw [q]; rfl)
          obtain ⟨df, hdf⟩ : ∃ df, s.size - bT.size = df := ⟨_, rfl⟩
          obtain ⟨e1, he1⟩ : ∃ e1, 0 + df = e1 := ⟨_, rfl⟩
          have D1 : Hid (IntKind.i64.wrap ((s.size : Int) - (bT.size : Int)) = (df : Int)) := Lib.hid (by rw [IntWalk.i64_in _ (by omega)]; omega)
          have D2 : Hid (wrap64 ((s.size : Int) - (bT.size : Int)) = (df : Int)) := Lib.hid (by rw [IntWalk.wrap64_in _ (by omega)]; omega)
          have D3 : Hid (IntKind.i64.wrap (0 + (df : Int)) = (e1 : Int)) := Lib.hid (by rw [IntWalk.i64_in _ (by have := HB2.out; omega)]; omega)
          have D4 : Hid (wrap64 (0 + (df : Int)) = (e1 : Int)) := Lib.hid (by rw [IntWalk.wrap64_in _ (by have := HB2.out; omega)]; omega)
          have D5 : Hid (IntKind.i64.wrap (df : Int) = (df : Int)) := Lib.hid (IntWalk.i64_in _ (by omega))
          have D6 : Hid (wrap64 (df : Int) = (df : Int)) := Lib.hid (IntWalk.wrap64_in _ (by omega))

          have EQ : Hid ((df : Int) = (e1 : Int)) := Lib.hid (by omega)
          have HWN : Hid (WrC (zat ws) nw (byC tb) (k + 1) (L ++ List.replicate b1 32 ++ T) e1) := Lib.hid (by
            have h := HW1.out hT0
            rw [if_pos (by omega), if_neg HK0.out, HB1.out, ← HSL.out, ← HTZ.out] at h
            rw [show e1 = s.size - bT.size + 0 by omega]; exact h)
          have KR := Lib.hid (Tryd.strings_Repeat (ByteArray.mk #[32]) b1 V (by have := HB2.out; omega) (by show 1 * b1 ≤ _; have := HB2.out; omega))
          obtain ⟨bR, hbR⟩ : ∃ bR, ByteArray.mk (Lib.repeatL (ByteArray.mk #[32]).data.toList b1).toArray = bR := ⟨_, rfl⟩
          rw [hbR] at KR
          have hRd : bR.data.toList = List.replicate b1 32 := by rw [← hbR]; exact rep32 b1
          have hRs : bR.size = b1 := by
            have e : bR.size = bR.data.toList.length := rfl
            rw [e, hRd, List.length_replicate]
          have HRD := Lib.hid hRd; have HRS := Lib.hid hRs
          have HTS := Lib.hid (show bT.size ≤ 60 by omega)
          clear HW1 HW2 hdf he1  hbR hRd hRs hT0
          go_wp2_with fail
          refine KK.out.mono ?_
          rintro e V1 ⟨rfl, hV⟩
          replace hV := hV.symm
          subst hV
          have a1 := A1.out; have a2 := A2.out; have a3 := A3.out; have a4 := A4.out
          go_wp2_with fail
          clear a1 a2 a3 a4
          refine KT.out.mono ?_
          rintro e V1 ⟨rfl, hV⟩
          replace hV := hV.symm
          subst hV
          go_wp2_with fail
          refine KR.out.mono ?_
          rintro e V2 ⟨rfl, hb⟩
          have HU2 := Lib.hid (HU.out.next hb)
          have E2 := Lib.hid (EE.out.trans (hb.mono EE.out.size))
          have KW := Lib.hid (ws_any w.heap.size w.heap.size L bR V2 HU2.out (by have := HRS.out; have := HB2.out; omega) E2.out.size)
          clear hb
          go_wp2_with fail
          refine KW.out.mono ?_
          rintro e V3 ⟨rfl, hu, hb⟩
          have HU3 := Lib.hid hu
          have E3 := Lib.hid (E2.out.trans hb)
          have KW2 := Lib.hid (ws_any w.heap.size w.heap.size _ bT V3 HU3.out (by rw [List.length_append, HRD.out, List.length_replicate]; have := HTS.out; have := HB2.out; omega) E3.out.size)
          clear hu hb HU2 KW
          go_wp2_with fail
          refine KW2.out.mono ?_
          rintro e V4 ⟨rfl, hu, hb⟩
          have HU4 := Lib.hid hu
          rw [HRD.out, HTD.out] at HU4
          have E4 := Lib.hid (E3.out.trans hb)
          clear hu hb HU3 KW2
          have d1 := D1.out; have d2 := D2.out; have d3 := D3.out; have d4 := D4.out; have d5 := D5.out; have d6 := D6.out
          go_wp2_with fail
          clear d1 d2 d3 d4 d5 d6
          go_roundg (n - (k + 1))
          case measure => omega
          case rel => exact ⟨k + 1, e1, _, by omega, rfl, by go_num, congrArg (Value.int .i64) EQ.out, HWN, HU4, E4⟩
    · obtain rfl : k = n := by omega
      have KS := Lib.hid (str_any w.heap.size w.heap.size L V HU.out EE.out.size)
      have HF := Lib.hid (show (ByteArray.mk L.toArray) = bL (lnC (zat ws) nw (byC tb) k) by rw [wrC_end HWR.out]; rfl)
      clear HU HWR
      go_wp2_with fail
      refine KS.out.mono ?_
      rintro e V2 ⟨rfl, hb⟩
      have E2 := Lib.hid (EE.out.trans hb)
      clear hb
      go_wp2_with fail
      rw [← HRR.out]
      exact ⟨congrArg (fun z => Ending.returned (Value.string z)) HF.out, E2.out⟩
end Go.Proofs.YtkonghjmipclmaaDoor
