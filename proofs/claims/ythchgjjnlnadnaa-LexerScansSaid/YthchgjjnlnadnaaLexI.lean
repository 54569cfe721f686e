/- Lexer: the document's Scan. -/
import Derived.Test.YthchgjjnlnadnaaRows
import Derived.Test.YthchgjjnlnadnaaRowKit
import Derived.Test.YthchgjjnlnadnaaShelf
import Derived.Test.YthchgjjnlnadnaaBlocks
import Derived.Test.YthchgjjnlnadnaaBL
import Derived.Test.YthchgjjnlnadnaaLexM
import Derived.Test.YthchgjjnlnadnaaRowL
import Derived.Test.YthchgjjnlnadnaaRowM
import Derived.Test.YthchgjjnlnadnaaLexA
import Derived.Test.YthchgjjnlnadnaaLexB
import Derived.Test.YthchgjjnlnadnaaLexC
import Derived.Test.YthchgjjnlnadnaaLexD
import Derived.Test.YthchgjjnlnadnaaLexE
import Derived.Test.YthchgjjnlnadnaaLexF
import Derived.Test.YthchgjjnlnadnaaCut
import Derived.Test.YthchgjjnlnadnaaLexG
import Derived.Test.YthchgjjnlnadnaaLexH
import Derived.Laws.MakeOwn
import Derived.Laws.AppendOwnNone
import Derived.WalkKit
import Derived.IntWalk
import Derived.Lib.Hide
import Derived.WalkSpells
import Derived.WalkLawsBesides
import Derived.Laws.IdiomStrings
import Derived.Laws.OwnMore
import Derived.OwnWalk
import Derived.Deep.QuietTactic
import Derived.BigQuiet
import Derived.BigRegion
import Derived.Deep.LoopGhost
namespace Go.Proofs.Ythchgjjnlnadnaa
open Go.RowKit Go.Sort
set_option linter.unusedSimpArgs false
set_option linter.unusedVariables false
theorem ext_run {S : List UInt8} {i k : Nat} {x : UInt8} (h : S[i]? = some x) : (bL S).extract i (i + 1 + (rnL k (S.drop (i + 1))).length) = bL (x :: rnL k (S.drop (i + 1))) := by
  rw [bL_sub, drop_cons h, show i + 1 + (rnL k (List.drop (i + 1) S)).length - i = (rnL k (List.drop (i + 1) S)).length + 1 by omega, List.take_succ_cons]
  congr 2
  exact tw_take (p := cntL k) (S.drop (i + 1))
set_option maxRecDepth 100000 in
set_option maxHeartbeats 40000000 in
theorem dscan_any (S : List UInt8) (w : World) (hl : S.length ≤ 65536) : Calls Try.prog 7 #[.string (bL S)] w (ScanR S w) := by
  obtain ⟨Q, hQ⟩ : ∃ Q : Ending → World → Prop, ScanR S w = Q := ⟨_, rfl⟩
  have HQ : Hid (∀ e w', ScV (scL S 1 1 []) (S.length + 1) w.heap.size w' e → Below w.heap.size w w' → Q e w') := Lib.hid (fun e w' h1 h2 => by rw [← hQ]; exact ⟨h1, h2⟩)
  rw [hQ]
  have B0 := Blk.new w #[.int .i64 0, .int .i64 0, .int .i64 0] 25
  have E0 := (Below.refl w.heap.size w).alloc (Nat.le_refl _) (.cells #[.int .i64 0, .int .i64 0, .int .i64 0] 25)
  obtain ⟨V0, hV⟩ : ∃ V, w.alloc (.cells #[.int .i64 0, .int .i64 0, .int .i64 0] 25) = V := ⟨_, rfl⟩
  rw [hV] at B0 E0
  have HV := Lib.hid hV
  have HB := Lib.hid B0; have EE := Lib.hid E0
  have hs := bL_size S
  have HX : Hid (∀ k x, S[k]? = some x → ∀ h : k < (bL S).size, ((bL S)[k]'h).toNat = x.toNat) := Lib.hid (fun k x hx => ixL S k x hx)
  obtain ⟨s, hss⟩ : ∃ s, bL S = s := ⟨_, rfl⟩
  rw [hss] at hs HX ⊢
  have hsi : ¬ (65536 : Int) < (s.size : Int) := by omega
  have hsn : s.size ≤ 65536 := by omega
  have HSS := Lib.hid hss
  have HL : Hid (s.size = S.length) := Lib.hid hs
  clear hQ B0 E0 hV hss hs
  go_enter Try.func7, Try.ntmps7
  go_wp2_with fail
  rw [HV.out]
  go_loopg [4, 5, 6, 7] s.size (fun gh v lv cv iv wr => ∃ (i : Nat) (acc : List Tk) (l c : Nat), i ≤ s.size ∧ gh = s.size - i ∧ lv = .int .i64 l ∧ cv = .int .i64 c ∧ iv = .int .i64 i ∧ Hid (OwT (w.heap.size + 1) wr v acc) ∧ Hid (scL S 1 1 [] = scL (S.drop i) l c acc) ∧ l ≤ i + 1 ∧ c ≤ i + 1 ∧ acc.length ≤ i ∧ Hid (Blk wr w.heap.size 25 #[.int .i64 0, .int .i64 0, .int .i64 0]) ∧ Hid (Below w.heap.size w wr))
  case atStart => exact ⟨0, [], 1, 1, Nat.zero_le _, rfl, rfl, rfl, rfl, Lib.hid (owT_nil _ _), Lib.hid rfl, by omega, by omega, by simp, HB, EE⟩
  case round =>
    clear HB EE hsi
    obtain ⟨i, acc, l, c, hi, rfl, rfl, rfl, rfl, HO, HI, hli, hci, hai, HB, EE⟩ := hrel
    rename World => V
    by_cases his : i < s.size
    · have hii : (i : Int) < (s.size : Int) := by omega
      obtain ⟨x, hx⟩ : ∃ x, S[i]? = some x := ⟨S[i]'(by rw [← HL.out]; exact his), List.getElem?_eq_getElem _⟩
      have g := HX.out i x hx his
      have HXX := Lib.hid hx
      obtain ⟨y, hy⟩ : ∃ y, x.toNat = y := ⟨_, rfl⟩
      have HKY : Hid (kndL x = kndN y) := Lib.hid (by rw [kndL_eq, hy])
      have h6 : kndL x ≤ 5 := by
        unfold kndL
        repeat' split
        all_goals omega
      rw [hy] at g
      clear hx hy
      have hk6 : kndL x = 0 ∨ kndL x = 1 ∨ kndL x = 2 ∨ kndL x = 3 ∨ kndL x = 4 ∨ kndL x = 5 := by omega
      clear h6
      rcases hk6 with hk | hk | hk | hk | hk | hk
      · have KK := Lib.hid (fun W => kind_any y W)
        rw [← HKY.out, hk] at KK
        have hml := rnL_len 0 (S.drop (i + 1))
        have hmat := fun q => tw_at (p := cntL 0) (S.drop (i + 1)) q
        have hmst := fun z => tw_stop (p := cntL 0) (S.drop (i + 1)) (x := z)
        have hm01 : (rnL 0 (S.drop (i + 1))).length = 0 := by rw [rnL_one (by omega)]; rfl
        obtain ⟨W, hW⟩ : ∃ W, rnL 0 (S.drop (i + 1)) = W := ⟨_, rfl⟩
        have hmat2 : ∀ q, q < W.length → ∃ z, (S.drop (i + 1))[q]? = some z ∧ cntL 0 z = true := fun q h => hmat q (by rw [← hW] at h; exact h)
        have hmst2 : ∀ z, (S.drop (i + 1))[W.length]? = some z → cntL 0 z = false := fun z h => hmst z (by rw [← hW] at h; exact h)
        rw [List.length_drop] at hml
        rw [hW] at hml hm01
        obtain ⟨m, hm⟩ : ∃ m, W.length = m := ⟨_, rfl⟩
        rw [hm] at hml hmat2 hmst2 hm01
        have HAT := Lib.hid hmat2; have HST := Lib.hid hmst2; have HMW := Lib.hid hm
        have he1 : i + 1 + m ≤ s.size := by have := HL.out; omega
        have Y1 : Hid (IntKind.i64.wrap ((i : Int) + 1) = (i : Int) + 1) := Lib.hid (IntWalk.i64_in _ (by omega))
        have Y2 : Hid (wrap64 ((i : Int) + 1) = (i : Int) + 1) := Lib.hid (IntWalk.wrap64_in _ (by omega))
        clear hmat hmst hmat2 hmst2 hm hml hW
        have y1 := Y1.out; have y2 := Y2.out
        go_wp2_with fail
        refine (KK.out V).mono ?_
        rintro ee w1 ⟨rfl, rfl⟩
        go_wp2_with fail
        clear y1 y2
        go_loopg [9] m (fun gh ev wr => ∃ (q j : Nat), q ≤ m ∧ gh = m - q ∧ ev = .int .i64 j ∧ j = i + 1 + q ∧ V = wr)
        case atStart => exact ⟨0, i + 1, Nat.zero_le _, rfl, by first | rfl | go_num, rfl, rfl⟩
        case round =>
          obtain ⟨q, j, hq, rfl, rfl, hj, rfl⟩ := hrel
          have HJ := Lib.hid hj
          have hjle : j ≤ s.size := by omega
          clear hj
          obtain rfl : q = m := by omega
          by_cases hjs : j < s.size
          · have hjsi : (j : Int) < (s.size : Int) := by omega
            have HSB : Hid (∀ w', ScV (scL S 1 1 []) (S.length + 1) w.heap.size w' (.returned (.tuple #[.slice none 0 0, .agg #[.int .i64 190, .int .i64 (l : Nat), .int .i64 (c : Nat)]]))) := Lib.hid (fun w' => by
              rw [HI.out, drop_cons HXX.out, scL_none hk]
              exact ⟨rfl, by omega⟩)
            have q0 := HB.out.cell 0; have qf0 := HB.out.frozen 0
            have q1 := HB.out.cell 1; have qf1 := HB.out.frozen 1
            have q2 := HB.out.cell 2; have qf2 := HB.out.frozen 2
            go_wp2_with fail
            have B9 : Blk (((V.setCell ⟨w.heap.size, 0, none⟩ (.int .i64 190)).setCell ⟨w.heap.size, 1, none⟩ (.int .i64 (l : Nat))).setCell ⟨w.heap.size, 2, none⟩ (.int .i64 (c : Nat))) w.heap.size 25 #[.int .i64 190, .int .i64 (l : Nat), .int .i64 (c : Nat)] := (((HB.out.set 0 (.int .i64 190)).set 1 (.int .i64 (l : Nat))).set 2 (.int .i64 (c : Nat)))
            have E9 : Below w.heap.size w (((V.setCell ⟨w.heap.size, 0, none⟩ (.int .i64 190)).setCell ⟨w.heap.size, 1, none⟩ (.int .i64 (l : Nat))).setCell ⟨w.heap.size, 2, none⟩ (.int .i64 (c : Nat))) := (((EE.out.setCell (p := ⟨w.heap.size, 0, none⟩) (Nat.le_refl _) (.int .i64 190)).setCell (p := ⟨w.heap.size, 1, none⟩) (Nat.le_refl _) (.int .i64 (l : Nat))).setCell (p := ⟨w.heap.size, 2, none⟩) (Nat.le_refl _) (.int .i64 (c : Nat)))
            obtain ⟨V9, hV9⟩ : ∃ V9, (((V.setCell ⟨w.heap.size, 0, none⟩ (.int .i64 190)).setCell ⟨w.heap.size, 1, none⟩ (.int .i64 (l : Nat))).setCell ⟨w.heap.size, 2, none⟩ (.int .i64 (c : Nat))) = V9 := ⟨_, rfl⟩
            rw [hV9] at B9 E9 ⊢
            clear hV9
            have e0 := B9.cell 0; have e1 := B9.cell 1; have e2 := B9.cell 2
            refine bodyPost_ret (v := .tuple #[.slice none 0 0, .agg #[.int .i64 190, .int .i64 (l : Nat), .int .i64 (c : Nat)]]) (by simp [results, Try.results7, go_sem, e0, e1, e2]) rfl ?_
            exact HQ.out _ V9 (HSB.out V9) E9
          · have hjsi : ¬ (j : Int) < (s.size : Int) := by omega
            have HSB : Hid (∀ w', ScV (scL S 1 1 []) (S.length + 1) w.heap.size w' (.returned (.tuple #[.slice none 0 0, .agg #[.int .i64 190, .int .i64 (l : Nat), .int .i64 (c : Nat)]]))) := Lib.hid (fun w' => by
              rw [HI.out, drop_cons HXX.out, scL_none hk]
              exact ⟨rfl, by omega⟩)
            have q0 := HB.out.cell 0; have qf0 := HB.out.frozen 0
            have q1 := HB.out.cell 1; have qf1 := HB.out.frozen 1
            have q2 := HB.out.cell 2; have qf2 := HB.out.frozen 2
            go_wp2_with fail
            have B9 : Blk (((V.setCell ⟨w.heap.size, 0, none⟩ (.int .i64 190)).setCell ⟨w.heap.size, 1, none⟩ (.int .i64 (l : Nat))).setCell ⟨w.heap.size, 2, none⟩ (.int .i64 (c : Nat))) w.heap.size 25 #[.int .i64 190, .int .i64 (l : Nat), .int .i64 (c : Nat)] := (((HB.out.set 0 (.int .i64 190)).set 1 (.int .i64 (l : Nat))).set 2 (.int .i64 (c : Nat)))
            have E9 : Below w.heap.size w (((V.setCell ⟨w.heap.size, 0, none⟩ (.int .i64 190)).setCell ⟨w.heap.size, 1, none⟩ (.int .i64 (l : Nat))).setCell ⟨w.heap.size, 2, none⟩ (.int .i64 (c : Nat))) := (((EE.out.setCell (p := ⟨w.heap.size, 0, none⟩) (Nat.le_refl _) (.int .i64 190)).setCell (p := ⟨w.heap.size, 1, none⟩) (Nat.le_refl _) (.int .i64 (l : Nat))).setCell (p := ⟨w.heap.size, 2, none⟩) (Nat.le_refl _) (.int .i64 (c : Nat)))
            obtain ⟨V9, hV9⟩ : ∃ V9, (((V.setCell ⟨w.heap.size, 0, none⟩ (.int .i64 190)).setCell ⟨w.heap.size, 1, none⟩ (.int .i64 (l : Nat))).setCell ⟨w.heap.size, 2, none⟩ (.int .i64 (c : Nat))) = V9 := ⟨_, rfl⟩
            rw [hV9] at B9 E9 ⊢
            clear hV9
            have e0 := B9.cell 0; have e1 := B9.cell 1; have e2 := B9.cell 2
            refine bodyPost_ret (v := .tuple #[.slice none 0 0, .agg #[.int .i64 190, .int .i64 (l : Nat), .int .i64 (c : Nat)]]) (by simp [results, Try.results7, go_sem, e0, e1, e2]) rfl ?_
            exact HQ.out _ V9 (HSB.out V9) E9

      · have KK := Lib.hid (fun W => kind_any y W)
        rw [← HKY.out, hk] at KK
        have hml := rnL_len 1 (S.drop (i + 1))
        have hmat := fun q => tw_at (p := cntL 1) (S.drop (i + 1)) q
        have hmst := fun z => tw_stop (p := cntL 1) (S.drop (i + 1)) (x := z)
        have hWt : (bL S).extract i (i + 1 + (rnL 1 (S.drop (i + 1))).length) = bL (x :: rnL 1 (S.drop (i + 1))) := ext_run HXX.out
        have hgo := fun (h : 1 = 5 → nokL (x :: rnL 5 (S.drop (i + 1))) = true) => scL_go hk (by omega) h l c acc
        have hm01 : (rnL 1 (S.drop (i + 1))).length = 0 := by rw [rnL_one (by omega)]; rfl
        obtain ⟨W, hW⟩ : ∃ W, rnL 1 (S.drop (i + 1)) = W := ⟨_, rfl⟩
        have hmat2 : ∀ q, q < W.length → ∃ z, (S.drop (i + 1))[q]? = some z ∧ cntL 1 z = true := fun q h => hmat q (by rw [← hW] at h; exact h)
        have hmst2 : ∀ z, (S.drop (i + 1))[W.length]? = some z → cntL 1 z = false := fun z h => hmst z (by rw [← hW] at h; exact h)
        rw [List.length_drop] at hml
        rw [hW] at hml hWt hgo hm01
        obtain ⟨m, hm⟩ : ∃ m, W.length = m := ⟨_, rfl⟩
        rw [hm] at hml hmat2 hmst2 hWt hgo hm01
        have HAT := Lib.hid hmat2; have HST := Lib.hid hmst2; have HMW := Lib.hid hm; have HWT := Lib.hid hWt; have HGO := Lib.hid hgo
        have he1 : i + 1 + m ≤ s.size := by have := HL.out; omega
        have Y1 : Hid (IntKind.i64.wrap ((i : Int) + 1) = (i : Int) + 1) := Lib.hid (IntWalk.i64_in _ (by omega))
        have Y2 : Hid (wrap64 ((i : Int) + 1) = (i : Int) + 1) := Lib.hid (IntWalk.wrap64_in _ (by omega))
        clear hmat hmst hmat2 hmst2 hm hml hWt hgo hW
        have y1 := Y1.out; have y2 := Y2.out
        go_wp2_with fail
        refine (KK.out V).mono ?_
        rintro ee w1 ⟨rfl, rfl⟩
        go_wp2_with fail
        clear y1 y2
        go_loopg [9] m (fun gh ev wr => ∃ (q j : Nat), q ≤ m ∧ gh = m - q ∧ ev = .int .i64 j ∧ j = i + 1 + q ∧ V = wr)
        case atStart => exact ⟨0, i + 1, Nat.zero_le _, rfl, by first | rfl | go_num, rfl, rfl⟩
        case round =>
          obtain ⟨q, j, hq, rfl, rfl, hj, rfl⟩ := hrel
          have HJ := Lib.hid hj
          have hjle : j ≤ s.size := by omega
          clear hj
          obtain rfl : q = m := by omega
          by_cases hjs : j < s.size
          · have hjsi : (j : Int) < (s.size : Int) := by omega
            have hj := HJ.out
            have hji : i < j := by omega
            have hjn : j ≤ s.size := by omega
            have hije : i ≤ j := by omega
            have hijei : (i : Int) ≤ (j : Int) := by omega
            have hjni : (j : Int) ≤ (s.size : Int) := by omega
            obtain ⟨c2, hc2⟩ : ∃ c2, c + (j - i) = c2 := ⟨_, rfl⟩
            have hb1 : l + 1 ≤ j + 1 := by omega
            have hb2 : c2 ≤ j + 1 := by omega
            have hb3 : acc.length + 1 ≤ j := by omega
            have A1 : Hid (IntKind.i64.wrap ((j : Int) - (i : Int)) = (j : Int) - (i : Int)) := Lib.hid (IntWalk.i64_in _ (by omega))
            have A2 : Hid (wrap64 ((j : Int) - (i : Int)) = (j : Int) - (i : Int)) := Lib.hid (IntWalk.wrap64_in _ (by omega))
            have A3 : Hid (IntKind.i64.wrap ((c : Int) + ((j : Int) - (i : Int))) = (c2 : Int)) := Lib.hid (by rw [IntWalk.i64_in _ (by omega)]; omega)
            have A4 : Hid (wrap64 ((c : Int) + ((j : Int) - (i : Int))) = (c2 : Int)) := Lib.hid (by rw [IntWalk.wrap64_in _ (by omega)]; omega)
            have A5 : Hid (IntKind.i64.wrap ((l : Int) + 1) = (l : Int) + 1) := Lib.hid (IntWalk.i64_in _ (by omega))
            have A6 : Hid (wrap64 ((l : Int) + 1) = (l : Int) + 1) := Lib.hid (IntWalk.wrap64_in _ (by omega))
            have hs2 : (bL S).extract i j = bL (x :: W) := by rw [hj]; exact HWT.out
            rw [HSS.out] at hs2
            have HI2 : Hid (scL S 1 1 [] = scL (S.drop j) l c2 (acc)) := Lib.hid (by
              rw [HI.out, drop_cons HXX.out, HGO.out (fun h => by omega)]
              rw [List.drop_drop]
              have e1 : i + 1 + q = j := hj.symm
              have e2 : c + 1 + q = c2 := by omega
              rw [e1, e2]; simp [tokL]
              )
            clear hj hc2
            clear hs2
            have a1 := A1.out; have a2 := A2.out; have a3 := A3.out; have a4 := A4.out; have a5 := A5.out; have a6 := A6.out
            go_wp2_with fail
            clear a1 a2 a3 a4 a5 a6
            go_roundg (s.size - j)
            case measure => omega
            case rel => exact ⟨j, acc, l, c2, by omega, rfl, rfl, rfl, rfl, HO, HI2, by omega, by omega, by omega, HB, EE⟩
          · have hjsi : ¬ (j : Int) < (s.size : Int) := by omega
            have hj := HJ.out
            have hji : i < j := by omega
            have hjn : j ≤ s.size := by omega
            have hije : i ≤ j := by omega
            have hijei : (i : Int) ≤ (j : Int) := by omega
            have hjni : (j : Int) ≤ (s.size : Int) := by omega
            obtain ⟨c2, hc2⟩ : ∃ c2, c + (j - i) = c2 := ⟨_, rfl⟩
            have hb1 : l + 1 ≤ j + 1 := by omega
            have hb2 : c2 ≤ j + 1 := by omega
            have hb3 : acc.length + 1 ≤ j := by omega
            have A1 : Hid (IntKind.i64.wrap ((j : Int) - (i : Int)) = (j : Int) - (i : Int)) := Lib.hid (IntWalk.i64_in _ (by omega))
            have A2 : Hid (wrap64 ((j : Int) - (i : Int)) = (j : Int) - (i : Int)) := Lib.hid (IntWalk.wrap64_in _ (by omega))
            have A3 : Hid (IntKind.i64.wrap ((c : Int) + ((j : Int) - (i : Int))) = (c2 : Int)) := Lib.hid (by rw [IntWalk.i64_in _ (by omega)]; omega)
            have A4 : Hid (wrap64 ((c : Int) + ((j : Int) - (i : Int))) = (c2 : Int)) := Lib.hid (by rw [IntWalk.wrap64_in _ (by omega)]; omega)
            have A5 : Hid (IntKind.i64.wrap ((l : Int) + 1) = (l : Int) + 1) := Lib.hid (IntWalk.i64_in _ (by omega))
            have A6 : Hid (wrap64 ((l : Int) + 1) = (l : Int) + 1) := Lib.hid (IntWalk.wrap64_in _ (by omega))
            have hs2 : (bL S).extract i j = bL (x :: W) := by rw [hj]; exact HWT.out
            rw [HSS.out] at hs2
            have HI2 : Hid (scL S 1 1 [] = scL (S.drop j) l c2 (acc)) := Lib.hid (by
              rw [HI.out, drop_cons HXX.out, HGO.out (fun h => by omega)]
              rw [List.drop_drop]
              have e1 : i + 1 + q = j := hj.symm
              have e2 : c + 1 + q = c2 := by omega
              rw [e1, e2]; simp [tokL]
              )
            clear hj hc2
            clear hs2
            have a1 := A1.out; have a2 := A2.out; have a3 := A3.out; have a4 := A4.out; have a5 := A5.out; have a6 := A6.out
            go_wp2_with fail
            clear a1 a2 a3 a4 a5 a6
            go_roundg (s.size - j)
            case measure => omega
            case rel => exact ⟨j, acc, l, c2, by omega, rfl, rfl, rfl, rfl, HO, HI2, by omega, by omega, by omega, HB, EE⟩

      · have KK := Lib.hid (fun W => kind_any y W)
        rw [← HKY.out, hk] at KK
        have hml := rnL_len 2 (S.drop (i + 1))
        have hmat := fun q => tw_at (p := cntL 2) (S.drop (i + 1)) q
        have hmst := fun z => tw_stop (p := cntL 2) (S.drop (i + 1)) (x := z)
        have hWt : (bL S).extract i (i + 1 + (rnL 2 (S.drop (i + 1))).length) = bL (x :: rnL 2 (S.drop (i + 1))) := ext_run HXX.out
        have hgo := fun (h : 2 = 5 → nokL (x :: rnL 5 (S.drop (i + 1))) = true) => scL_go hk (by omega) h l c acc
        obtain ⟨W, hW⟩ : ∃ W, rnL 2 (S.drop (i + 1)) = W := ⟨_, rfl⟩
        have hmat2 : ∀ q, q < W.length → ∃ z, (S.drop (i + 1))[q]? = some z ∧ cntL 2 z = true := fun q h => hmat q (by rw [← hW] at h; exact h)
        have hmst2 : ∀ z, (S.drop (i + 1))[W.length]? = some z → cntL 2 z = false := fun z h => hmst z (by rw [← hW] at h; exact h)
        rw [List.length_drop] at hml
        rw [hW] at hml hWt hgo
        obtain ⟨m, hm⟩ : ∃ m, W.length = m := ⟨_, rfl⟩
        rw [hm] at hml hmat2 hmst2 hWt hgo
        have HAT := Lib.hid hmat2; have HST := Lib.hid hmst2; have HMW := Lib.hid hm; have HWT := Lib.hid hWt; have HGO := Lib.hid hgo
        have he1 : i + 1 + m ≤ s.size := by have := HL.out; omega
        have Y1 : Hid (IntKind.i64.wrap ((i : Int) + 1) = (i : Int) + 1) := Lib.hid (IntWalk.i64_in _ (by omega))
        have Y2 : Hid (wrap64 ((i : Int) + 1) = (i : Int) + 1) := Lib.hid (IntWalk.wrap64_in _ (by omega))
        clear hmat hmst hmat2 hmst2 hm hml hWt hgo hW
        have y1 := Y1.out; have y2 := Y2.out
        go_wp2_with fail
        refine (KK.out V).mono ?_
        rintro ee w1 ⟨rfl, rfl⟩
        go_wp2_with fail
        clear y1 y2
        go_loopg [9] m (fun gh ev wr => ∃ (q j : Nat), q ≤ m ∧ gh = m - q ∧ ev = .int .i64 j ∧ j = i + 1 + q ∧ V = wr)
        case atStart => exact ⟨0, i + 1, Nat.zero_le _, rfl, by first | rfl | go_num, rfl, rfl⟩
        case round =>
          obtain ⟨q, j, hq, rfl, rfl, hj, rfl⟩ := hrel
          have HJ := Lib.hid hj
          have hjle : j ≤ s.size := by omega
          clear hj
          by_cases hqm : q < m
          · obtain ⟨z, hz, hc⟩ := HAT.out q hqm
            rw [List.getElem?_drop] at hz
            have hjs : j < s.size := by have := HJ.out; omega
            have hjsi : (j : Int) < (s.size : Int) := by omega
            have gz := HX.out j z (by rw [HJ.out]; exact hz) hjs
            obtain ⟨u, hu⟩ : ∃ u, z.toNat = u := ⟨_, rfl⟩
            rw [hu] at gz
            have Z1 : Hid (IntKind.i64.wrap ((j : Int) + 1) = (j : Int) + 1) := Lib.hid (IntWalk.i64_in _ (by omega))
            have Z2 : Hid (wrap64 ((j : Int) + 1) = (j : Int) + 1) := Lib.hid (IntWalk.wrap64_in _ (by omega))
            have hu10 : u ≠ 10 := fun e => by rw [← hu] at e; rw [cnt_ten 2 e] at hc; cases hc
            have hub : ((u : Int) != 10) = true := by rw [bne_iff_ne]; omega
            clear hz hc hu hu10
            have z1 := Z1.out; have z2 := Z2.out
            go_wp2_with fail
            clear z1 z2
            go_roundg (m - (q + 1))
            case measure => omega
            case rel => exact ⟨q + 1, j + 1, by omega, rfl, by go_num, by have := HJ.out; omega, rfl⟩
          · obtain rfl : q = m := by omega
            by_cases hjs : j < s.size
            · have hjsi : (j : Int) < (s.size : Int) := by omega
              obtain ⟨z, hz0⟩ : ∃ z, S[j]? = some z := ⟨S[j]'(by rw [← HL.out]; exact hjs), List.getElem?_eq_getElem _⟩
              have gz := HX.out j z hz0 hjs
              have hc := HST.out z (by rw [List.getElem?_drop, ← HJ.out]; exact hz0)
              obtain ⟨u, hu⟩ : ∃ u, z.toNat = u := ⟨_, rfl⟩
              rw [hu] at gz
              have hu10 : u = 10 := by
                unfold cntL at hc
                simp at hc
                rw [← hu]; exact hc
              have hub : ((u : Int) != 10) = false := by rw [bne_eq_false_iff_eq]; omega
              clear hz0 hc hu hu10
              have hj := HJ.out
              have hji : i < j := by omega
              have hjn : j ≤ s.size := by omega
              have hije : i ≤ j := by omega
              have hijei : (i : Int) ≤ (j : Int) := by omega
              have hjni : (j : Int) ≤ (s.size : Int) := by omega
              obtain ⟨c2, hc2⟩ : ∃ c2, c + (j - i) = c2 := ⟨_, rfl⟩
              have hb1 : l + 1 ≤ j + 1 := by omega
              have hb2 : c2 ≤ j + 1 := by omega
              have hb3 : acc.length + 1 ≤ j := by omega
              have A1 : Hid (IntKind.i64.wrap ((j : Int) - (i : Int)) = (j : Int) - (i : Int)) := Lib.hid (IntWalk.i64_in _ (by omega))
              have A2 : Hid (wrap64 ((j : Int) - (i : Int)) = (j : Int) - (i : Int)) := Lib.hid (IntWalk.wrap64_in _ (by omega))
              have A3 : Hid (IntKind.i64.wrap ((c : Int) + ((j : Int) - (i : Int))) = (c2 : Int)) := Lib.hid (by rw [IntWalk.i64_in _ (by omega)]; omega)
              have A4 : Hid (wrap64 ((c : Int) + ((j : Int) - (i : Int))) = (c2 : Int)) := Lib.hid (by rw [IntWalk.wrap64_in _ (by omega)]; omega)
              have A5 : Hid (IntKind.i64.wrap ((l : Int) + 1) = (l : Int) + 1) := Lib.hid (IntWalk.i64_in _ (by omega))
              have A6 : Hid (wrap64 ((l : Int) + 1) = (l : Int) + 1) := Lib.hid (IntWalk.wrap64_in _ (by omega))
              have hs2 : (bL S).extract i j = bL (x :: W) := by rw [hj]; exact HWT.out
              rw [HSS.out] at hs2
              have HI2 : Hid (scL S 1 1 [] = scL (S.drop j) l c2 (acc)) := Lib.hid (by
                rw [HI.out, drop_cons HXX.out, HGO.out (fun h => by omega)]
                rw [List.drop_drop]
                have e1 : i + 1 + q = j := hj.symm
                have e2 : c + 1 + q = c2 := by omega
                rw [e1, e2]; simp [tokL]
                )
              clear hj hc2
              clear hs2
              have a1 := A1.out; have a2 := A2.out; have a3 := A3.out; have a4 := A4.out; have a5 := A5.out; have a6 := A6.out
              go_wp2_with fail
              clear a1 a2 a3 a4 a5 a6
              go_roundg (s.size - j)
              case measure => omega
              case rel => exact ⟨j, acc, l, c2, by omega, rfl, rfl, rfl, rfl, HO, HI2, by omega, by omega, by omega, HB, EE⟩
            · have hjsi : ¬ (j : Int) < (s.size : Int) := by omega
              have hj := HJ.out
              have hji : i < j := by omega
              have hjn : j ≤ s.size := by omega
              have hije : i ≤ j := by omega
              have hijei : (i : Int) ≤ (j : Int) := by omega
              have hjni : (j : Int) ≤ (s.size : Int) := by omega
              obtain ⟨c2, hc2⟩ : ∃ c2, c + (j - i) = c2 := ⟨_, rfl⟩
              have hb1 : l + 1 ≤ j + 1 := by omega
              have hb2 : c2 ≤ j + 1 := by omega
              have hb3 : acc.length + 1 ≤ j := by omega
              have A1 : Hid (IntKind.i64.wrap ((j : Int) - (i : Int)) = (j : Int) - (i : Int)) := Lib.hid (IntWalk.i64_in _ (by omega))
              have A2 : Hid (wrap64 ((j : Int) - (i : Int)) = (j : Int) - (i : Int)) := Lib.hid (IntWalk.wrap64_in _ (by omega))
              have A3 : Hid (IntKind.i64.wrap ((c : Int) + ((j : Int) - (i : Int))) = (c2 : Int)) := Lib.hid (by rw [IntWalk.i64_in _ (by omega)]; omega)
              have A4 : Hid (wrap64 ((c : Int) + ((j : Int) - (i : Int))) = (c2 : Int)) := Lib.hid (by rw [IntWalk.wrap64_in _ (by omega)]; omega)
              have A5 : Hid (IntKind.i64.wrap ((l : Int) + 1) = (l : Int) + 1) := Lib.hid (IntWalk.i64_in _ (by omega))
              have A6 : Hid (wrap64 ((l : Int) + 1) = (l : Int) + 1) := Lib.hid (IntWalk.wrap64_in _ (by omega))
              have hs2 : (bL S).extract i j = bL (x :: W) := by rw [hj]; exact HWT.out
              rw [HSS.out] at hs2
              have HI2 : Hid (scL S 1 1 [] = scL (S.drop j) l c2 (acc)) := Lib.hid (by
                rw [HI.out, drop_cons HXX.out, HGO.out (fun h => by omega)]
                rw [List.drop_drop]
                have e1 : i + 1 + q = j := hj.symm
                have e2 : c + 1 + q = c2 := by omega
                rw [e1, e2]; simp [tokL]
                )
              clear hj hc2
              clear hs2
              have a1 := A1.out; have a2 := A2.out; have a3 := A3.out; have a4 := A4.out; have a5 := A5.out; have a6 := A6.out
              go_wp2_with fail
              clear a1 a2 a3 a4 a5 a6
              go_roundg (s.size - j)
              case measure => omega
              case rel => exact ⟨j, acc, l, c2, by omega, rfl, rfl, rfl, rfl, HO, HI2, by omega, by omega, by omega, HB, EE⟩

      · have KK := Lib.hid (fun W => kind_any y W)
        rw [← HKY.out, hk] at KK
        have hml := rnL_len 3 (S.drop (i + 1))
        have hmat := fun q => tw_at (p := cntL 3) (S.drop (i + 1)) q
        have hmst := fun z => tw_stop (p := cntL 3) (S.drop (i + 1)) (x := z)
        have hWt : (bL S).extract i (i + 1 + (rnL 3 (S.drop (i + 1))).length) = bL (x :: rnL 3 (S.drop (i + 1))) := ext_run HXX.out
        have hgo := fun (h : 3 = 5 → nokL (x :: rnL 5 (S.drop (i + 1))) = true) => scL_go hk (by omega) h l c acc
        have hm01 : (rnL 3 (S.drop (i + 1))).length = 0 := by rw [rnL_one (by omega)]; rfl
        obtain ⟨W, hW⟩ : ∃ W, rnL 3 (S.drop (i + 1)) = W := ⟨_, rfl⟩
        have hmat2 : ∀ q, q < W.length → ∃ z, (S.drop (i + 1))[q]? = some z ∧ cntL 3 z = true := fun q h => hmat q (by rw [← hW] at h; exact h)
        have hmst2 : ∀ z, (S.drop (i + 1))[W.length]? = some z → cntL 3 z = false := fun z h => hmst z (by rw [← hW] at h; exact h)
        rw [List.length_drop] at hml
        rw [hW] at hml hWt hgo hm01
        obtain ⟨m, hm⟩ : ∃ m, W.length = m := ⟨_, rfl⟩
        rw [hm] at hml hmat2 hmst2 hWt hgo hm01
        have HAT := Lib.hid hmat2; have HST := Lib.hid hmst2; have HMW := Lib.hid hm; have HWT := Lib.hid hWt; have HGO := Lib.hid hgo
        have he1 : i + 1 + m ≤ s.size := by have := HL.out; omega
        have Y1 : Hid (IntKind.i64.wrap ((i : Int) + 1) = (i : Int) + 1) := Lib.hid (IntWalk.i64_in _ (by omega))
        have Y2 : Hid (wrap64 ((i : Int) + 1) = (i : Int) + 1) := Lib.hid (IntWalk.wrap64_in _ (by omega))
        clear hmat hmst hmat2 hmst2 hm hml hWt hgo hW
        have y1 := Y1.out; have y2 := Y2.out
        go_wp2_with fail
        refine (KK.out V).mono ?_
        rintro ee w1 ⟨rfl, rfl⟩
        go_wp2_with fail
        clear y1 y2
        go_loopg [9] m (fun gh ev wr => ∃ (q j : Nat), q ≤ m ∧ gh = m - q ∧ ev = .int .i64 j ∧ j = i + 1 + q ∧ V = wr)
        case atStart => exact ⟨0, i + 1, Nat.zero_le _, rfl, by first | rfl | go_num, rfl, rfl⟩
        case round =>
          obtain ⟨q, j, hq, rfl, rfl, hj, rfl⟩ := hrel
          have HJ := Lib.hid hj
          have hjle : j ≤ s.size := by omega
          clear hj
          obtain rfl : q = m := by omega
          by_cases hjs : j < s.size
          · have hjsi : (j : Int) < (s.size : Int) := by omega
            have hj := HJ.out
            have hji : i < j := by omega
            have hjn : j ≤ s.size := by omega
            have hije : i ≤ j := by omega
            have hijei : (i : Int) ≤ (j : Int) := by omega
            have hjni : (j : Int) ≤ (s.size : Int) := by omega
            obtain ⟨c2, hc2⟩ : ∃ c2, c + (j - i) = c2 := ⟨_, rfl⟩
            have hb1 : l + 1 ≤ j + 1 := by omega
            have hb2 : c2 ≤ j + 1 := by omega
            have hb3 : acc.length + 1 ≤ j := by omega
            have A1 : Hid (IntKind.i64.wrap ((j : Int) - (i : Int)) = (j : Int) - (i : Int)) := Lib.hid (IntWalk.i64_in _ (by omega))
            have A2 : Hid (wrap64 ((j : Int) - (i : Int)) = (j : Int) - (i : Int)) := Lib.hid (IntWalk.wrap64_in _ (by omega))
            have A3 : Hid (IntKind.i64.wrap ((c : Int) + ((j : Int) - (i : Int))) = (c2 : Int)) := Lib.hid (by rw [IntWalk.i64_in _ (by omega)]; omega)
            have A4 : Hid (wrap64 ((c : Int) + ((j : Int) - (i : Int))) = (c2 : Int)) := Lib.hid (by rw [IntWalk.wrap64_in _ (by omega)]; omega)
            have A5 : Hid (IntKind.i64.wrap ((l : Int) + 1) = (l : Int) + 1) := Lib.hid (IntWalk.i64_in _ (by omega))
            have A6 : Hid (wrap64 ((l : Int) + 1) = (l : Int) + 1) := Lib.hid (IntWalk.wrap64_in _ (by omega))
            have hs2 : (bL S).extract i j = bL (x :: W) := by rw [hj]; exact HWT.out
            rw [HSS.out] at hs2
            have HI2 : Hid (scL S 1 1 [] = scL (S.drop j) (l + 1) 1 (acc ++ [⟨3, [], 0, l, c⟩])) := Lib.hid (by
              rw [HI.out, drop_cons HXX.out, HGO.out (fun h => by omega)]
              rw [List.drop_drop]
              have e1 : i + 1 + q = j := hj.symm
              have e2 : c + 1 + q = c2 := by omega
              rw [e1]; simp [tokL]
              )
            clear hj hc2
            clear hs2
            have HW : Hid (u4.ownBlock ≠ some w.heap.size) := Lib.hid (own_ne HO.out)
            have HLM : Hid (acc.length ≤ 100000) := Lib.hid (by omega)
            have HS0 : Hid (w.heap.size + 1 ≤ V.heap.size) := Lib.hid (by have := HB.out.lt; omega)
            have a1 := A1.out; have a2 := A2.out; have a3 := A3.out; have a4 := A4.out; have a5 := A5.out; have a6 := A6.out
            go_wp2_with (at_builtin; refine append_tok rfl _ _ rfl (w.heap.size + 1) u4 acc rfl (HO.out.next ((Below.refl V.heap.size V).alloc (Nat.le_refl _) (.cells #[.int .i64 3, .string (ByteArray.mk #[]), .int .i64 0, .int .i64 (l : Nat), .int .i64 (c : Nat)] 31))) V.heap.size 1 ⟨3, [], 0, l, c⟩ #[.int .i64 3, .string (ByteArray.mk #[]), .int .i64 0, .int .i64 (l : Nat), .int .i64 (c : Nat)] rfl rfl (Blk.new V _ _) HLM.out (Nat.le_trans HS0.out (by simp)) ?_; intro v4 V4 o4 q4 keep4 sz4; have p4 := keep4 _ _ _ (HB.out.alloc _) HW.out; have HO4 := Lib.hid o4; have HP4 := Lib.hid p4; have E4 := Lib.hid ((EE.out.alloc (Nat.le_trans (Nat.le_succ _) HS0.out) _).trans (q4.mono (Nat.le_succ _))); clear o4 p4 q4 keep4 sz4)
            clear a1 a2 a3 a4 a5 a6
            go_roundg (s.size - j)
            case measure => omega
            case rel => exact ⟨j, acc ++ [⟨3, [], 0, l, c⟩], l + 1, 1, by omega, rfl, rfl, by go_num, rfl, HO4, HI2, by omega, by omega, by rw [List.length_append, List.length_singleton]; omega, HP4, E4⟩
          · have hjsi : ¬ (j : Int) < (s.size : Int) := by omega
            have hj := HJ.out
            have hji : i < j := by omega
            have hjn : j ≤ s.size := by omega
            have hije : i ≤ j := by omega
            have hijei : (i : Int) ≤ (j : Int) := by omega
            have hjni : (j : Int) ≤ (s.size : Int) := by omega
            obtain ⟨c2, hc2⟩ : ∃ c2, c + (j - i) = c2 := ⟨_, rfl⟩
            have hb1 : l + 1 ≤ j + 1 := by omega
            have hb2 : c2 ≤ j + 1 := by omega
            have hb3 : acc.length + 1 ≤ j := by omega
            have A1 : Hid (IntKind.i64.wrap ((j : Int) - (i : Int)) = (j : Int) - (i : Int)) := Lib.hid (IntWalk.i64_in _ (by omega))
            have A2 : Hid (wrap64 ((j : Int) - (i : Int)) = (j : Int) - (i : Int)) := Lib.hid (IntWalk.wrap64_in _ (by omega))
            have A3 : Hid (IntKind.i64.wrap ((c : Int) + ((j : Int) - (i : Int))) = (c2 : Int)) := Lib.hid (by rw [IntWalk.i64_in _ (by omega)]; omega)
            have A4 : Hid (wrap64 ((c : Int) + ((j : Int) - (i : Int))) = (c2 : Int)) := Lib.hid (by rw [IntWalk.wrap64_in _ (by omega)]; omega)
            have A5 : Hid (IntKind.i64.wrap ((l : Int) + 1) = (l : Int) + 1) := Lib.hid (IntWalk.i64_in _ (by omega))
            have A6 : Hid (wrap64 ((l : Int) + 1) = (l : Int) + 1) := Lib.hid (IntWalk.wrap64_in _ (by omega))
            have hs2 : (bL S).extract i j = bL (x :: W) := by rw [hj]; exact HWT.out
            rw [HSS.out] at hs2
            have HI2 : Hid (scL S 1 1 [] = scL (S.drop j) (l + 1) 1 (acc ++ [⟨3, [], 0, l, c⟩])) := Lib.hid (by
              rw [HI.out, drop_cons HXX.out, HGO.out (fun h => by omega)]
              rw [List.drop_drop]
              have e1 : i + 1 + q = j := hj.symm
              have e2 : c + 1 + q = c2 := by omega
              rw [e1]; simp [tokL]
              )
            clear hj hc2
            clear hs2
            have HW : Hid (u4.ownBlock ≠ some w.heap.size) := Lib.hid (own_ne HO.out)
            have HLM : Hid (acc.length ≤ 100000) := Lib.hid (by omega)
            have HS0 : Hid (w.heap.size + 1 ≤ V.heap.size) := Lib.hid (by have := HB.out.lt; omega)
            have a1 := A1.out; have a2 := A2.out; have a3 := A3.out; have a4 := A4.out; have a5 := A5.out; have a6 := A6.out
            go_wp2_with (at_builtin; refine append_tok rfl _ _ rfl (w.heap.size + 1) u4 acc rfl (HO.out.next ((Below.refl V.heap.size V).alloc (Nat.le_refl _) (.cells #[.int .i64 3, .string (ByteArray.mk #[]), .int .i64 0, .int .i64 (l : Nat), .int .i64 (c : Nat)] 31))) V.heap.size 1 ⟨3, [], 0, l, c⟩ #[.int .i64 3, .string (ByteArray.mk #[]), .int .i64 0, .int .i64 (l : Nat), .int .i64 (c : Nat)] rfl rfl (Blk.new V _ _) HLM.out (Nat.le_trans HS0.out (by simp)) ?_; intro v4 V4 o4 q4 keep4 sz4; have p4 := keep4 _ _ _ (HB.out.alloc _) HW.out; have HO4 := Lib.hid o4; have HP4 := Lib.hid p4; have E4 := Lib.hid ((EE.out.alloc (Nat.le_trans (Nat.le_succ _) HS0.out) _).trans (q4.mono (Nat.le_succ _))); clear o4 p4 q4 keep4 sz4)
            clear a1 a2 a3 a4 a5 a6
            go_roundg (s.size - j)
            case measure => omega
            case rel => exact ⟨j, acc ++ [⟨3, [], 0, l, c⟩], l + 1, 1, by omega, rfl, rfl, by go_num, rfl, HO4, HI2, by omega, by omega, by rw [List.length_append, List.length_singleton]; omega, HP4, E4⟩

      · have KK := Lib.hid (fun W => kind_any y W)
        rw [← HKY.out, hk] at KK
        have hml := rnL_len 4 (S.drop (i + 1))
        have hmat := fun q => tw_at (p := cntL 4) (S.drop (i + 1)) q
        have hmst := fun z => tw_stop (p := cntL 4) (S.drop (i + 1)) (x := z)
        have hWt : (bL S).extract i (i + 1 + (rnL 4 (S.drop (i + 1))).length) = bL (x :: rnL 4 (S.drop (i + 1))) := ext_run HXX.out
        have hgo := fun (h : 4 = 5 → nokL (x :: rnL 5 (S.drop (i + 1))) = true) => scL_go hk (by omega) h l c acc
        obtain ⟨W, hW⟩ : ∃ W, rnL 4 (S.drop (i + 1)) = W := ⟨_, rfl⟩
        have hmat2 : ∀ q, q < W.length → ∃ z, (S.drop (i + 1))[q]? = some z ∧ cntL 4 z = true := fun q h => hmat q (by rw [← hW] at h; exact h)
        have hmst2 : ∀ z, (S.drop (i + 1))[W.length]? = some z → cntL 4 z = false := fun z h => hmst z (by rw [← hW] at h; exact h)
        rw [List.length_drop] at hml
        rw [hW] at hml hWt hgo
        obtain ⟨m, hm⟩ : ∃ m, W.length = m := ⟨_, rfl⟩
        rw [hm] at hml hmat2 hmst2 hWt hgo
        have HAT := Lib.hid hmat2; have HST := Lib.hid hmst2; have HMW := Lib.hid hm; have HWT := Lib.hid hWt; have HGO := Lib.hid hgo
        have he1 : i + 1 + m ≤ s.size := by have := HL.out; omega
        have Y1 : Hid (IntKind.i64.wrap ((i : Int) + 1) = (i : Int) + 1) := Lib.hid (IntWalk.i64_in _ (by omega))
        have Y2 : Hid (wrap64 ((i : Int) + 1) = (i : Int) + 1) := Lib.hid (IntWalk.wrap64_in _ (by omega))
        clear hmat hmst hmat2 hmst2 hm hml hWt hgo hW
        have y1 := Y1.out; have y2 := Y2.out
        go_wp2_with fail
        refine (KK.out V).mono ?_
        rintro ee w1 ⟨rfl, rfl⟩
        go_wp2_with fail
        clear y1 y2
        go_loopg [9] m (fun gh ev wr => ∃ (q j : Nat), q ≤ m ∧ gh = m - q ∧ ev = .int .i64 j ∧ j = i + 1 + q ∧ V = wr)
        case atStart => exact ⟨0, i + 1, Nat.zero_le _, rfl, by first | rfl | go_num, rfl, rfl⟩
        case round =>
          obtain ⟨q, j, hq, rfl, rfl, hj, rfl⟩ := hrel
          have HJ := Lib.hid hj
          have hjle : j ≤ s.size := by omega
          clear hj
          by_cases hqm : q < m
          · obtain ⟨z, hz, hc⟩ := HAT.out q hqm
            rw [List.getElem?_drop] at hz
            have hjs : j < s.size := by have := HJ.out; omega
            have hjsi : (j : Int) < (s.size : Int) := by omega
            have gz := HX.out j z (by rw [HJ.out]; exact hz) hjs
            obtain ⟨u, hu⟩ : ∃ u, z.toNat = u := ⟨_, rfl⟩
            rw [hu] at gz
            have Z1 : Hid (IntKind.i64.wrap ((j : Int) + 1) = (j : Int) + 1) := Lib.hid (IntWalk.i64_in _ (by omega))
            have Z2 : Hid (wrap64 ((j : Int) + 1) = (j : Int) + 1) := Lib.hid (IntWalk.wrap64_in _ (by omega))
            have KZ := Lib.hid (fun W => kind_any u W)
            have hkz : kndL z = 4 := by rw [cnt_self4] at hc; exact of_decide_eq_true hc
            rw [← hu, ← kndL_eq, hkz, hu] at KZ
            clear hz hc hu hkz
            have z1 := Z1.out; have z2 := Z2.out
            go_wp2_with fail
            refine (KZ.out V).mono ?_
            rintro ee w1 ⟨rfl, rfl⟩
            go_wp2_with fail
            clear z1 z2
            go_roundg (m - (q + 1))
            case measure => omega
            case rel => exact ⟨q + 1, j + 1, by omega, rfl, by go_num, by have := HJ.out; omega, rfl⟩
          · obtain rfl : q = m := by omega
            by_cases hjs : j < s.size
            · have hjsi : (j : Int) < (s.size : Int) := by omega
              obtain ⟨z, hz0⟩ : ∃ z, S[j]? = some z := ⟨S[j]'(by rw [← HL.out]; exact hjs), List.getElem?_eq_getElem _⟩
              have gz := HX.out j z hz0 hjs
              have hc := HST.out z (by rw [List.getElem?_drop, ← HJ.out]; exact hz0)
              obtain ⟨u, hu⟩ : ∃ u, z.toNat = u := ⟨_, rfl⟩
              rw [hu] at gz
              have KZ := Lib.hid (fun W => kind_any u W)
              have hkz : kndL z ≠ 4 := fun e => by rw [cnt_self4, e] at hc; simp at hc
              obtain ⟨kz, hkz2⟩ : ∃ kz, kndL z = kz := ⟨_, rfl⟩
              rw [← hu, ← kndL_eq, hkz2, hu] at KZ
              rw [hkz2] at hkz
              have hkb : ((kz : Int) == 4) = false := by rw [beq_eq_false_iff_ne]; omega
              clear hz0 hc hu hkz hkz2
              go_wp2_with fail
              refine (KZ.out V).mono ?_
              rintro ee w1 ⟨rfl, rfl⟩
              have hj := HJ.out
              have hji : i < j := by omega
              have hjn : j ≤ s.size := by omega
              have hije : i ≤ j := by omega
              have hijei : (i : Int) ≤ (j : Int) := by omega
              have hjni : (j : Int) ≤ (s.size : Int) := by omega
              obtain ⟨c2, hc2⟩ : ∃ c2, c + (j - i) = c2 := ⟨_, rfl⟩
              have hb1 : l + 1 ≤ j + 1 := by omega
              have hb2 : c2 ≤ j + 1 := by omega
              have hb3 : acc.length + 1 ≤ j := by omega
              have A1 : Hid (IntKind.i64.wrap ((j : Int) - (i : Int)) = (j : Int) - (i : Int)) := Lib.hid (IntWalk.i64_in _ (by omega))
              have A2 : Hid (wrap64 ((j : Int) - (i : Int)) = (j : Int) - (i : Int)) := Lib.hid (IntWalk.wrap64_in _ (by omega))
              have A3 : Hid (IntKind.i64.wrap ((c : Int) + ((j : Int) - (i : Int))) = (c2 : Int)) := Lib.hid (by rw [IntWalk.i64_in _ (by omega)]; omega)
              have A4 : Hid (wrap64 ((c : Int) + ((j : Int) - (i : Int))) = (c2 : Int)) := Lib.hid (by rw [IntWalk.wrap64_in _ (by omega)]; omega)
              have A5 : Hid (IntKind.i64.wrap ((l : Int) + 1) = (l : Int) + 1) := Lib.hid (IntWalk.i64_in _ (by omega))
              have A6 : Hid (wrap64 ((l : Int) + 1) = (l : Int) + 1) := Lib.hid (IntWalk.wrap64_in _ (by omega))
              have hs2 : (bL S).extract i j = bL (x :: W) := by rw [hj]; exact HWT.out
              rw [HSS.out] at hs2
              have HI2 : Hid (scL S 1 1 [] = scL (S.drop j) l c2 (acc ++ [⟨1, x :: W, 0, l, c⟩])) := Lib.hid (by
                rw [HI.out, drop_cons HXX.out, HGO.out (fun h => by omega)]
                rw [List.drop_drop]
                have e1 : i + 1 + q = j := hj.symm
                have e2 : c + 1 + q = c2 := by omega
                rw [e1, e2]; simp [tokL]
                )
              clear hj hc2
              obtain ⟨ws, hws⟩ : ∃ ws, bL (x :: W) = ws := ⟨_, rfl⟩
              rw [hws] at hs2
              have HWS := Lib.hid hws
              clear hws
              have HW : Hid (u4.ownBlock ≠ some w.heap.size) := Lib.hid (own_ne HO.out)
              have HLM : Hid (acc.length ≤ 100000) := Lib.hid (by omega)
              have HS0 : Hid (w.heap.size + 1 ≤ V.heap.size) := Lib.hid (by have := HB.out.lt; omega)
              have a1 := A1.out; have a2 := A2.out; have a3 := A3.out; have a4 := A4.out; have a5 := A5.out; have a6 := A6.out
              go_wp2_with (at_builtin; refine append_tok rfl _ _ rfl (w.heap.size + 1) u4 acc rfl (HO.out.next ((Below.refl V.heap.size V).alloc (Nat.le_refl _) (.cells #[.int .i64 1, .string ws, .int .i64 0, .int .i64 (l : Nat), .int .i64 (c : Nat)] 31))) V.heap.size 1 ⟨1, x :: W, 0, l, c⟩ #[.int .i64 1, .string ws, .int .i64 0, .int .i64 (l : Nat), .int .i64 (c : Nat)] (by rw [← HWS.out]; rfl) rfl (Blk.new V _ _) HLM.out (Nat.le_trans HS0.out (by simp)) ?_; intro v4 V4 o4 q4 keep4 sz4; have p4 := keep4 _ _ _ (HB.out.alloc _) HW.out; have HO4 := Lib.hid o4; have HP4 := Lib.hid p4; have E4 := Lib.hid ((EE.out.alloc (Nat.le_trans (Nat.le_succ _) HS0.out) _).trans (q4.mono (Nat.le_succ _))); clear o4 p4 q4 keep4 sz4)
              clear a1 a2 a3 a4 a5 a6
              go_roundg (s.size - j)
              case measure => omega
              case rel => exact ⟨j, acc ++ [⟨1, x :: W, 0, l, c⟩], l, c2, by omega, rfl, rfl, rfl, rfl, HO4, HI2, by omega, by omega, by rw [List.length_append, List.length_singleton]; omega, HP4, E4⟩
            · have hjsi : ¬ (j : Int) < (s.size : Int) := by omega
              have hj := HJ.out
              have hji : i < j := by omega
              have hjn : j ≤ s.size := by omega
              have hije : i ≤ j := by omega
              have hijei : (i : Int) ≤ (j : Int) := by omega
              have hjni : (j : Int) ≤ (s.size : Int) := by omega
              obtain ⟨c2, hc2⟩ : ∃ c2, c + (j - i) = c2 := ⟨_, rfl⟩
              have hb1 : l + 1 ≤ j + 1 := by omega
              have hb2 : c2 ≤ j + 1 := by omega
              have hb3 : acc.length + 1 ≤ j := by omega
              have A1 : Hid (IntKind.i64.wrap ((j : Int) - (i : Int)) = (j : Int) - (i : Int)) := Lib.hid (IntWalk.i64_in _ (by omega))
              have A2 : Hid (wrap64 ((j : Int) - (i : Int)) = (j : Int) - (i : Int)) := Lib.hid (IntWalk.wrap64_in _ (by omega))
              have A3 : Hid (IntKind.i64.wrap ((c : Int) + ((j : Int) - (i : Int))) = (c2 : Int)) := Lib.hid (by rw [IntWalk.i64_in _ (by omega)]; omega)
              have A4 : Hid (wrap64 ((c : Int) + ((j : Int) - (i : Int))) = (c2 : Int)) := Lib.hid (by rw [IntWalk.wrap64_in _ (by omega)]; omega)
              have A5 : Hid (IntKind.i64.wrap ((l : Int) + 1) = (l : Int) + 1) := Lib.hid (IntWalk.i64_in _ (by omega))
              have A6 : Hid (wrap64 ((l : Int) + 1) = (l : Int) + 1) := Lib.hid (IntWalk.wrap64_in _ (by omega))
              have hs2 : (bL S).extract i j = bL (x :: W) := by rw [hj]; exact HWT.out
              rw [HSS.out] at hs2
              have HI2 : Hid (scL S 1 1 [] = scL (S.drop j) l c2 (acc ++ [⟨1, x :: W, 0, l, c⟩])) := Lib.hid (by
                rw [HI.out, drop_cons HXX.out, HGO.out (fun h => by omega)]
                rw [List.drop_drop]
                have e1 : i + 1 + q = j := hj.symm
                have e2 : c + 1 + q = c2 := by omega
                rw [e1, e2]; simp [tokL]
                )
              clear hj hc2
              obtain ⟨ws, hws⟩ : ∃ ws, bL (x :: W) = ws := ⟨_, rfl⟩
              rw [hws] at hs2
              have HWS := Lib.hid hws
              clear hws
              have HW : Hid (u4.ownBlock ≠ some w.heap.size) := Lib.hid (own_ne HO.out)
              have HLM : Hid (acc.length ≤ 100000) := Lib.hid (by omega)
              have HS0 : Hid (w.heap.size + 1 ≤ V.heap.size) := Lib.hid (by have := HB.out.lt; omega)
              have a1 := A1.out; have a2 := A2.out; have a3 := A3.out; have a4 := A4.out; have a5 := A5.out; have a6 := A6.out
              go_wp2_with (at_builtin; refine append_tok rfl _ _ rfl (w.heap.size + 1) u4 acc rfl (HO.out.next ((Below.refl V.heap.size V).alloc (Nat.le_refl _) (.cells #[.int .i64 1, .string ws, .int .i64 0, .int .i64 (l : Nat), .int .i64 (c : Nat)] 31))) V.heap.size 1 ⟨1, x :: W, 0, l, c⟩ #[.int .i64 1, .string ws, .int .i64 0, .int .i64 (l : Nat), .int .i64 (c : Nat)] (by rw [← HWS.out]; rfl) rfl (Blk.new V _ _) HLM.out (Nat.le_trans HS0.out (by simp)) ?_; intro v4 V4 o4 q4 keep4 sz4; have p4 := keep4 _ _ _ (HB.out.alloc _) HW.out; have HO4 := Lib.hid o4; have HP4 := Lib.hid p4; have E4 := Lib.hid ((EE.out.alloc (Nat.le_trans (Nat.le_succ _) HS0.out) _).trans (q4.mono (Nat.le_succ _))); clear o4 p4 q4 keep4 sz4)
              clear a1 a2 a3 a4 a5 a6
              go_roundg (s.size - j)
              case measure => omega
              case rel => exact ⟨j, acc ++ [⟨1, x :: W, 0, l, c⟩], l, c2, by omega, rfl, rfl, rfl, rfl, HO4, HI2, by omega, by omega, by rw [List.length_append, List.length_singleton]; omega, HP4, E4⟩

      · have KK := Lib.hid (fun W => kind_any y W)
        rw [← HKY.out, hk] at KK
        have hml := rnL_len 5 (S.drop (i + 1))
        have hmat := fun q => tw_at (p := cntL 5) (S.drop (i + 1)) q
        have hmst := fun z => tw_stop (p := cntL 5) (S.drop (i + 1)) (x := z)
        have hWt : (bL S).extract i (i + 1 + (rnL 5 (S.drop (i + 1))).length) = bL (x :: rnL 5 (S.drop (i + 1))) := ext_run HXX.out
        have hgo := fun (h : 5 = 5 → nokL (x :: rnL 5 (S.drop (i + 1))) = true) => scL_go hk (by omega) h l c acc
        obtain ⟨W, hW⟩ : ∃ W, rnL 5 (S.drop (i + 1)) = W := ⟨_, rfl⟩
        have hmat2 : ∀ q, q < W.length → ∃ z, (S.drop (i + 1))[q]? = some z ∧ cntL 5 z = true := fun q h => hmat q (by rw [← hW] at h; exact h)
        have hmst2 : ∀ z, (S.drop (i + 1))[W.length]? = some z → cntL 5 z = false := fun z h => hmst z (by rw [← hW] at h; exact h)
        rw [List.length_drop] at hml
        rw [hW] at hml hWt hgo
        have hdg : dgL (x :: W) := by
          have h := rn_dg (x :: S.drop (i + 1))
          rw [rn_yes (by rw [cnt_self5, hk]; rfl), hW] at h
          exact h
        have HWD := Lib.hid hW
        obtain ⟨m, hm⟩ : ∃ m, W.length = m := ⟨_, rfl⟩
        rw [hm] at hml hmat2 hmst2 hWt hgo
        have HAT := Lib.hid hmat2; have HST := Lib.hid hmst2; have HMW := Lib.hid hm; have HWT := Lib.hid hWt; have HGO := Lib.hid hgo; have HDG := Lib.hid hdg
        have he1 : i + 1 + m ≤ s.size := by have := HL.out; omega
        have Y1 : Hid (IntKind.i64.wrap ((i : Int) + 1) = (i : Int) + 1) := Lib.hid (IntWalk.i64_in _ (by omega))
        have Y2 : Hid (wrap64 ((i : Int) + 1) = (i : Int) + 1) := Lib.hid (IntWalk.wrap64_in _ (by omega))
        clear hmat hmst hmat2 hmst2 hm hml hWt hgo hdg hW
        have y1 := Y1.out; have y2 := Y2.out
        go_wp2_with fail
        refine (KK.out V).mono ?_
        rintro ee w1 ⟨rfl, rfl⟩
        go_wp2_with fail
        clear y1 y2
        go_loopg [9] m (fun gh ev wr => ∃ (q j : Nat), q ≤ m ∧ gh = m - q ∧ ev = .int .i64 j ∧ j = i + 1 + q ∧ V = wr)
        case atStart => exact ⟨0, i + 1, Nat.zero_le _, rfl, by first | rfl | go_num, rfl, rfl⟩
        case round =>
          obtain ⟨q, j, hq, rfl, rfl, hj, rfl⟩ := hrel
          have HJ := Lib.hid hj
          have hjle : j ≤ s.size := by omega
          clear hj
          by_cases hqm : q < m
          · obtain ⟨z, hz, hc⟩ := HAT.out q hqm
            rw [List.getElem?_drop] at hz
            have hjs : j < s.size := by have := HJ.out; omega
            have hjsi : (j : Int) < (s.size : Int) := by omega
            have gz := HX.out j z (by rw [HJ.out]; exact hz) hjs
            obtain ⟨u, hu⟩ : ∃ u, z.toNat = u := ⟨_, rfl⟩
            rw [hu] at gz
            have Z1 : Hid (IntKind.i64.wrap ((j : Int) + 1) = (j : Int) + 1) := Lib.hid (IntWalk.i64_in _ (by omega))
            have Z2 : Hid (wrap64 ((j : Int) + 1) = (j : Int) + 1) := Lib.hid (IntWalk.wrap64_in _ (by omega))
            have KZ := Lib.hid (fun W => kind_any u W)
            have hkz : kndL z = 5 := by rw [cnt_self5] at hc; exact of_decide_eq_true hc
            rw [← hu, ← kndL_eq, hkz, hu] at KZ
            clear hz hc hu hkz
            have z1 := Z1.out; have z2 := Z2.out
            go_wp2_with fail
            refine (KZ.out V).mono ?_
            rintro ee w1 ⟨rfl, rfl⟩
            go_wp2_with fail
            clear z1 z2
            go_roundg (m - (q + 1))
            case measure => omega
            case rel => exact ⟨q + 1, j + 1, by omega, rfl, by go_num, by have := HJ.out; omega, rfl⟩
          · obtain rfl : q = m := by omega
            by_cases hjs : j < s.size
            · have hjsi : (j : Int) < (s.size : Int) := by omega
              obtain ⟨z, hz0⟩ : ∃ z, S[j]? = some z := ⟨S[j]'(by rw [← HL.out]; exact hjs), List.getElem?_eq_getElem _⟩
              have gz := HX.out j z hz0 hjs
              have hc := HST.out z (by rw [List.getElem?_drop, ← HJ.out]; exact hz0)
              obtain ⟨u, hu⟩ : ∃ u, z.toNat = u := ⟨_, rfl⟩
              rw [hu] at gz
              have KZ := Lib.hid (fun W => kind_any u W)
              have hkz : kndL z ≠ 5 := fun e => by rw [cnt_self5, e] at hc; simp at hc
              obtain ⟨kz, hkz2⟩ : ∃ kz, kndL z = kz := ⟨_, rfl⟩
              rw [← hu, ← kndL_eq, hkz2, hu] at KZ
              rw [hkz2] at hkz
              have hkb : ((kz : Int) == 5) = false := by rw [beq_eq_false_iff_ne]; omega
              clear hz0 hc hu hkz hkz2
              go_wp2_with fail
              refine (KZ.out V).mono ?_
              rintro ee w1 ⟨rfl, rfl⟩
              have hj := HJ.out
              have hji : i < j := by omega
              have hjn : j ≤ s.size := by omega
              have hije : i ≤ j := by omega
              have hijei : (i : Int) ≤ (j : Int) := by omega
              have hjni : (j : Int) ≤ (s.size : Int) := by omega
              obtain ⟨c2, hc2⟩ : ∃ c2, c + (j - i) = c2 := ⟨_, rfl⟩
              have hb1 : l + 1 ≤ j + 1 := by omega
              have hb2 : c2 ≤ j + 1 := by omega
              have hb3 : acc.length + 1 ≤ j := by omega
              have A1 : Hid (IntKind.i64.wrap ((j : Int) - (i : Int)) = (j : Int) - (i : Int)) := Lib.hid (IntWalk.i64_in _ (by omega))
              have A2 : Hid (wrap64 ((j : Int) - (i : Int)) = (j : Int) - (i : Int)) := Lib.hid (IntWalk.wrap64_in _ (by omega))
              have A3 : Hid (IntKind.i64.wrap ((c : Int) + ((j : Int) - (i : Int))) = (c2 : Int)) := Lib.hid (by rw [IntWalk.i64_in _ (by omega)]; omega)
              have A4 : Hid (wrap64 ((c : Int) + ((j : Int) - (i : Int))) = (c2 : Int)) := Lib.hid (by rw [IntWalk.wrap64_in _ (by omega)]; omega)
              have A5 : Hid (IntKind.i64.wrap ((l : Int) + 1) = (l : Int) + 1) := Lib.hid (IntWalk.i64_in _ (by omega))
              have A6 : Hid (wrap64 ((l : Int) + 1) = (l : Int) + 1) := Lib.hid (IntWalk.wrap64_in _ (by omega))
              have hs2 : (bL S).extract i j = bL (x :: W) := by rw [hj]; exact HWT.out
              rw [HSS.out] at hs2
              clear hj
              obtain ⟨ws, hws⟩ : ∃ ws, bL (x :: W) = ws := ⟨_, rfl⟩
              have KN := Lib.hid (fun V => number_any (x :: W) V HDG.out (by simp) (by rw [List.length_cons]; have := HMW.out; omega))
              rw [hws] at hs2 KN
              have HWS := Lib.hid hws
              clear hws
              go_wp2_with fail
              refine (KN.out V).mono ?_
              rintro ee w1 ⟨nv, rfl, hnv, qd, rfl⟩
              have hbd : Below V.heap.size V (V.drewN qd) := below_drewN (Below.refl _ _) qd
              replace HB := Lib.hid (HB.out.next hbd)
              replace HO := Lib.hid (HO.out.next hbd)
              have EE' := Lib.hid (EE.out.trans (hbd.mono EE.out.size))
              clear hbd KN EE
              have EE := EE'
              clear EE'
              obtain ⟨V1, hV1⟩ : ∃ V1, V.drewN qd = V1 := ⟨_, rfl⟩
              rw [hV1] at HB HO EE ⊢
              clear hV1
              cases hno : nokL (x :: W) with
              | true =>
                obtain rfl := hnv hno
                have hj := HJ.out
                have HI2 : Hid (scL S 1 1 [] = scL (S.drop j) l c2 (acc ++ [⟨2, x :: W, (nvL (x :: W) 0), l, c⟩])) := Lib.hid (by
                  rw [HI.out, drop_cons HXX.out, HGO.out (fun _ => hno)]
                  rw [List.drop_drop]
                  have e1 : i + 1 + q = j := hj.symm
                  have e2 : c + 1 + q = c2 := by omega
                  rw [e1, e2]; simp [tokL]
                  )
                clear hj hc2

                obtain ⟨nv, hnn⟩ : ∃ nv, nvL (x :: W) 0 = nv := ⟨_, rfl⟩
                rw [hnn] at HI2 ⊢
                have HW : Hid (u4.ownBlock ≠ some w.heap.size) := Lib.hid (own_ne HO.out)
                have HLM : Hid (acc.length ≤ 100000) := Lib.hid (by omega)
                have HS0 : Hid (w.heap.size + 1 ≤ V1.heap.size) := Lib.hid (by have := HB.out.lt; omega)

                clear hno hnv hnn
                have a1 := A1.out; have a2 := A2.out; have a3 := A3.out; have a4 := A4.out; have a5 := A5.out; have a6 := A6.out

                go_wp2_with (at_builtin; refine append_tok rfl _ _ rfl (w.heap.size + 1) u4 acc rfl (HO.out.next ((Below.refl V1.heap.size V1).alloc (Nat.le_refl _) (.cells #[.int .i64 2, .string ws, .int .i64 (nv : Nat), .int .i64 (l : Nat), .int .i64 (c : Nat)] 31))) V1.heap.size 1 ⟨2, x :: W, nv, l, c⟩ #[.int .i64 2, .string ws, .int .i64 (nv : Nat), .int .i64 (l : Nat), .int .i64 (c : Nat)] (by rw [← HWS.out]; rfl) rfl (Blk.new V1 _ _) HLM.out (Nat.le_trans HS0.out (by simp)) ?_; intro v4 V4 o4 q4 keep4 sz4; have p4 := keep4 _ _ _ (HB.out.alloc _) HW.out; have HO4 := Lib.hid o4; have HP4 := Lib.hid p4; have E4 := Lib.hid ((EE.out.alloc (Nat.le_trans (Nat.le_succ _) HS0.out) _).trans (q4.mono (Nat.le_succ _))); clear o4 p4 q4 keep4 sz4)
                clear a1 a2 a3 a4 a5 a6

                go_roundg (s.size - j)
                case measure => omega
                case rel => exact ⟨j, acc ++ [⟨2, x :: W, nv, l, c⟩], l, c2, by omega, rfl, rfl, rfl, rfl, HO4, HI2, by omega, by omega, by rw [List.length_append, List.length_singleton]; omega, HP4, E4⟩
              | false =>
                have HSB : Hid (∀ w', ScV (scL S 1 1 []) (S.length + 1) w.heap.size w' (.returned (.tuple #[.slice none 0 0, .agg #[.int .i64 191, .int .i64 (l : Nat), .int .i64 (c : Nat)]]))) := Lib.hid (fun w' => by
                  rw [HI.out, drop_cons HXX.out, scL_num hk (by rw [HWD.out]; exact hno)]
                  exact ⟨rfl, by omega⟩)
                clear hno hnv
                have q0 := HB.out.cell 0; have qf0 := HB.out.frozen 0
                have q1 := HB.out.cell 1; have qf1 := HB.out.frozen 1
                have q2 := HB.out.cell 2; have qf2 := HB.out.frozen 2
                go_wp2_with fail
                have B9 : Blk (((V1.setCell ⟨w.heap.size, 0, none⟩ (.int .i64 191)).setCell ⟨w.heap.size, 1, none⟩ (.int .i64 (l : Nat))).setCell ⟨w.heap.size, 2, none⟩ (.int .i64 (c : Nat))) w.heap.size 25 #[.int .i64 191, .int .i64 (l : Nat), .int .i64 (c : Nat)] := (((HB.out.set 0 (.int .i64 191)).set 1 (.int .i64 (l : Nat))).set 2 (.int .i64 (c : Nat)))
                have E9 : Below w.heap.size w (((V1.setCell ⟨w.heap.size, 0, none⟩ (.int .i64 191)).setCell ⟨w.heap.size, 1, none⟩ (.int .i64 (l : Nat))).setCell ⟨w.heap.size, 2, none⟩ (.int .i64 (c : Nat))) := (((EE.out.setCell (p := ⟨w.heap.size, 0, none⟩) (Nat.le_refl _) (.int .i64 191)).setCell (p := ⟨w.heap.size, 1, none⟩) (Nat.le_refl _) (.int .i64 (l : Nat))).setCell (p := ⟨w.heap.size, 2, none⟩) (Nat.le_refl _) (.int .i64 (c : Nat)))
                obtain ⟨V9, hV9⟩ : ∃ V9, (((V1.setCell ⟨w.heap.size, 0, none⟩ (.int .i64 191)).setCell ⟨w.heap.size, 1, none⟩ (.int .i64 (l : Nat))).setCell ⟨w.heap.size, 2, none⟩ (.int .i64 (c : Nat))) = V9 := ⟨_, rfl⟩
                rw [hV9] at B9 E9 ⊢
                clear hV9
                have e0 := B9.cell 0; have e1 := B9.cell 1; have e2 := B9.cell 2
                refine bodyPost_ret (v := .tuple #[.slice none 0 0, .agg #[.int .i64 191, .int .i64 (l : Nat), .int .i64 (c : Nat)]]) (by simp [results, Try.results7, go_sem, e0, e1, e2]) rfl ?_
                exact HQ.out _ V9 (HSB.out V9) E9
            · have hjsi : ¬ (j : Int) < (s.size : Int) := by omega
              have hj := HJ.out
              have hji : i < j := by omega
              have hjn : j ≤ s.size := by omega
              have hije : i ≤ j := by omega
              have hijei : (i : Int) ≤ (j : Int) := by omega
              have hjni : (j : Int) ≤ (s.size : Int) := by omega
              obtain ⟨c2, hc2⟩ : ∃ c2, c + (j - i) = c2 := ⟨_, rfl⟩
              have hb1 : l + 1 ≤ j + 1 := by omega
              have hb2 : c2 ≤ j + 1 := by omega
              have hb3 : acc.length + 1 ≤ j := by omega
              have A1 : Hid (IntKind.i64.wrap ((j : Int) - (i : Int)) = (j : Int) - (i : Int)) := Lib.hid (IntWalk.i64_in _ (by omega))
              have A2 : Hid (wrap64 ((j : Int) - (i : Int)) = (j : Int) - (i : Int)) := Lib.hid (IntWalk.wrap64_in _ (by omega))
              have A3 : Hid (IntKind.i64.wrap ((c : Int) + ((j : Int) - (i : Int))) = (c2 : Int)) := Lib.hid (by rw [IntWalk.i64_in _ (by omega)]; omega)
              have A4 : Hid (wrap64 ((c : Int) + ((j : Int) - (i : Int))) = (c2 : Int)) := Lib.hid (by rw [IntWalk.wrap64_in _ (by omega)]; omega)
              have A5 : Hid (IntKind.i64.wrap ((l : Int) + 1) = (l : Int) + 1) := Lib.hid (IntWalk.i64_in _ (by omega))
              have A6 : Hid (wrap64 ((l : Int) + 1) = (l : Int) + 1) := Lib.hid (IntWalk.wrap64_in _ (by omega))
              have hs2 : (bL S).extract i j = bL (x :: W) := by rw [hj]; exact HWT.out
              rw [HSS.out] at hs2
              clear hj
              obtain ⟨ws, hws⟩ : ∃ ws, bL (x :: W) = ws := ⟨_, rfl⟩
              have KN := Lib.hid (fun V => number_any (x :: W) V HDG.out (by simp) (by rw [List.length_cons]; have := HMW.out; omega))
              rw [hws] at hs2 KN
              have HWS := Lib.hid hws
              clear hws
              go_wp2_with fail
              refine (KN.out V).mono ?_
              rintro ee w1 ⟨nv, rfl, hnv, qd, rfl⟩
              have hbd : Below V.heap.size V (V.drewN qd) := below_drewN (Below.refl _ _) qd
              replace HB := Lib.hid (HB.out.next hbd)
              replace HO := Lib.hid (HO.out.next hbd)
              have EE' := Lib.hid (EE.out.trans (hbd.mono EE.out.size))
              clear hbd KN EE
              have EE := EE'
              clear EE'
              obtain ⟨V1, hV1⟩ : ∃ V1, V.drewN qd = V1 := ⟨_, rfl⟩
              rw [hV1] at HB HO EE ⊢
              clear hV1
              cases hno : nokL (x :: W) with
              | true =>
                obtain rfl := hnv hno
                have hj := HJ.out
                have HI2 : Hid (scL S 1 1 [] = scL (S.drop j) l c2 (acc ++ [⟨2, x :: W, (nvL (x :: W) 0), l, c⟩])) := Lib.hid (by
                  rw [HI.out, drop_cons HXX.out, HGO.out (fun _ => hno)]
                  rw [List.drop_drop]
                  have e1 : i + 1 + q = j := hj.symm
                  have e2 : c + 1 + q = c2 := by omega
                  rw [e1, e2]; simp [tokL]
                  )
                clear hj hc2

                obtain ⟨nv, hnn⟩ : ∃ nv, nvL (x :: W) 0 = nv := ⟨_, rfl⟩
                rw [hnn] at HI2 ⊢
                have HW : Hid (u4.ownBlock ≠ some w.heap.size) := Lib.hid (own_ne HO.out)
                have HLM : Hid (acc.length ≤ 100000) := Lib.hid (by omega)
                have HS0 : Hid (w.heap.size + 1 ≤ V1.heap.size) := Lib.hid (by have := HB.out.lt; omega)

                clear hno hnv hnn
                have a1 := A1.out; have a2 := A2.out; have a3 := A3.out; have a4 := A4.out; have a5 := A5.out; have a6 := A6.out

                go_wp2_with (at_builtin; refine append_tok rfl _ _ rfl (w.heap.size + 1) u4 acc rfl (HO.out.next ((Below.refl V1.heap.size V1).alloc (Nat.le_refl _) (.cells #[.int .i64 2, .string ws, .int .i64 (nv : Nat), .int .i64 (l : Nat), .int .i64 (c : Nat)] 31))) V1.heap.size 1 ⟨2, x :: W, nv, l, c⟩ #[.int .i64 2, .string ws, .int .i64 (nv : Nat), .int .i64 (l : Nat), .int .i64 (c : Nat)] (by rw [← HWS.out]; rfl) rfl (Blk.new V1 _ _) HLM.out (Nat.le_trans HS0.out (by simp)) ?_; intro v4 V4 o4 q4 keep4 sz4; have p4 := keep4 _ _ _ (HB.out.alloc _) HW.out; have HO4 := Lib.hid o4; have HP4 := Lib.hid p4; have E4 := Lib.hid ((EE.out.alloc (Nat.le_trans (Nat.le_succ _) HS0.out) _).trans (q4.mono (Nat.le_succ _))); clear o4 p4 q4 keep4 sz4)
                clear a1 a2 a3 a4 a5 a6

                go_roundg (s.size - j)
                case measure => omega
                case rel => exact ⟨j, acc ++ [⟨2, x :: W, nv, l, c⟩], l, c2, by omega, rfl, rfl, rfl, rfl, HO4, HI2, by omega, by omega, by rw [List.length_append, List.length_singleton]; omega, HP4, E4⟩
              | false =>
                have HSB : Hid (∀ w', ScV (scL S 1 1 []) (S.length + 1) w.heap.size w' (.returned (.tuple #[.slice none 0 0, .agg #[.int .i64 191, .int .i64 (l : Nat), .int .i64 (c : Nat)]]))) := Lib.hid (fun w' => by
                  rw [HI.out, drop_cons HXX.out, scL_num hk (by rw [HWD.out]; exact hno)]
                  exact ⟨rfl, by omega⟩)
                clear hno hnv
                have q0 := HB.out.cell 0; have qf0 := HB.out.frozen 0
                have q1 := HB.out.cell 1; have qf1 := HB.out.frozen 1
                have q2 := HB.out.cell 2; have qf2 := HB.out.frozen 2
                go_wp2_with fail
                have B9 : Blk (((V1.setCell ⟨w.heap.size, 0, none⟩ (.int .i64 191)).setCell ⟨w.heap.size, 1, none⟩ (.int .i64 (l : Nat))).setCell ⟨w.heap.size, 2, none⟩ (.int .i64 (c : Nat))) w.heap.size 25 #[.int .i64 191, .int .i64 (l : Nat), .int .i64 (c : Nat)] := (((HB.out.set 0 (.int .i64 191)).set 1 (.int .i64 (l : Nat))).set 2 (.int .i64 (c : Nat)))
                have E9 : Below w.heap.size w (((V1.setCell ⟨w.heap.size, 0, none⟩ (.int .i64 191)).setCell ⟨w.heap.size, 1, none⟩ (.int .i64 (l : Nat))).setCell ⟨w.heap.size, 2, none⟩ (.int .i64 (c : Nat))) := (((EE.out.setCell (p := ⟨w.heap.size, 0, none⟩) (Nat.le_refl _) (.int .i64 191)).setCell (p := ⟨w.heap.size, 1, none⟩) (Nat.le_refl _) (.int .i64 (l : Nat))).setCell (p := ⟨w.heap.size, 2, none⟩) (Nat.le_refl _) (.int .i64 (c : Nat)))
                obtain ⟨V9, hV9⟩ : ∃ V9, (((V1.setCell ⟨w.heap.size, 0, none⟩ (.int .i64 191)).setCell ⟨w.heap.size, 1, none⟩ (.int .i64 (l : Nat))).setCell ⟨w.heap.size, 2, none⟩ (.int .i64 (c : Nat))) = V9 := ⟨_, rfl⟩
                rw [hV9] at B9 E9 ⊢
                clear hV9
                have e0 := B9.cell 0; have e1 := B9.cell 1; have e2 := B9.cell 2
                refine bodyPost_ret (v := .tuple #[.slice none 0 0, .agg #[.int .i64 191, .int .i64 (l : Nat), .int .i64 (c : Nat)]]) (by simp [results, Try.results7, go_sem, e0, e1, e2]) rfl ?_
                exact HQ.out _ V9 (HSB.out V9) E9

    · obtain rfl : i = s.size := by omega
      have hii : ¬ (s.size : Int) < (s.size : Int) := by omega
      have HLA : Hid (scL S 1 1 [] = .ok (acc ++ if endL acc then [] else [⟨3, [], 0, l, c⟩])) := Lib.hid (by rw [HI.out, List.drop_of_length_le (by rw [HL.out]; exact Nat.le_refl _), scL_nil])
      obtain ⟨g3, cap3, hv3⟩ := ownM_slice HO.out
      subst hv3
      have HW : Hid ((Value.slice g3 acc.length cap3).ownBlock ≠ some w.heap.size) := Lib.hid (own_ne HO.out)
      have HLM : Hid (acc.length ≤ 100000) := Lib.hid (by omega)
      have HS0 : Hid (w.heap.size + 1 ≤ V.heap.size) := Lib.hid (by have := HB.out.lt; omega)
      have hlS := HL.out
      by_cases hM0 : acc.length = 0
      · have hq0 : ((acc.length : Int) == 0) = true := by rw [beq_iff_eq]; omega
        have HEQ : Hid (scL S 1 1 [] = .ok (acc ++ [⟨3, [], 0, l, c⟩])) := Lib.hid (by
          rw [HLA.out, List.length_eq_zero_iff.1 hM0]; rfl)
        clear hM0 hlS
        go_wp2_with (at_builtin; refine append_tok rfl _ _ rfl (w.heap.size + 1) (.slice g3 acc.length cap3) acc rfl (HO.out.next ((Below.refl V.heap.size V).alloc (Nat.le_refl _) (.cells #[.int .i64 3, .string (ByteArray.mk #[]), .int .i64 0, .int .i64 (l : Nat), .int .i64 (c : Nat)] 31))) V.heap.size 1 ⟨3, [], 0, l, c⟩ #[.int .i64 3, .string (ByteArray.mk #[]), .int .i64 0, .int .i64 (l : Nat), .int .i64 (c : Nat)] rfl rfl (Blk.new V _ _) HLM.out (Nat.le_trans HS0.out (by simp)) ?_; intro v4 V4 o4 q4 keep4 sz4; have p4 := keep4 _ _ _ (HB.out.alloc _) HW.out; have HO4 := Lib.hid o4; have HP4 := Lib.hid p4; have E4 := Lib.hid ((EE.out.alloc (Nat.le_trans (Nat.le_succ _) HS0.out) _).trans (q4.mono (Nat.le_succ _))); clear o4 p4 q4 keep4 sz4; have d0 := HP4.out.cell 0; have df0 := HP4.out.frozen 0; have d1 := HP4.out.cell 1; have df1 := HP4.out.frozen 1; have d2 := HP4.out.cell 2; have df2 := HP4.out.frozen 2)
        have B9 : Blk (((V4.setCell ⟨w.heap.size, 0, none⟩ (.int .i64 0)).setCell ⟨w.heap.size, 1, none⟩ (.int .i64 0)).setCell ⟨w.heap.size, 2, none⟩ (.int .i64 0)) w.heap.size 25 #[.int .i64 0, .int .i64 0, .int .i64 0] := (((HP4.out.set 0 (.int .i64 0)).set 1 (.int .i64 0)).set 2 (.int .i64 0))
        have O9 : OwT (w.heap.size + 1) (((V4.setCell ⟨w.heap.size, 0, none⟩ (.int .i64 0)).setCell ⟨w.heap.size, 1, none⟩ (.int .i64 0)).setCell ⟨w.heap.size, 2, none⟩ (.int .i64 0)) v4 (acc ++ [⟨3, [], 0, l, c⟩]) := (((HO4.out.far (p := ⟨w.heap.size, 0, none⟩) (Nat.lt_succ_self w.heap.size) (.int .i64 0)).far (p := ⟨w.heap.size, 1, none⟩) (Nat.lt_succ_self w.heap.size) (.int .i64 0)).far (p := ⟨w.heap.size, 2, none⟩) (Nat.lt_succ_self w.heap.size) (.int .i64 0))
        have E9 : Below w.heap.size w (((V4.setCell ⟨w.heap.size, 0, none⟩ (.int .i64 0)).setCell ⟨w.heap.size, 1, none⟩ (.int .i64 0)).setCell ⟨w.heap.size, 2, none⟩ (.int .i64 0)) := (((E4.out.setCell (p := ⟨w.heap.size, 0, none⟩) (Nat.le_refl _) (.int .i64 0)).setCell (p := ⟨w.heap.size, 1, none⟩) (Nat.le_refl _) (.int .i64 0)).setCell (p := ⟨w.heap.size, 2, none⟩) (Nat.le_refl _) (.int .i64 0))
        obtain ⟨V9, hV9⟩ : ∃ V9, (((V4.setCell ⟨w.heap.size, 0, none⟩ (.int .i64 0)).setCell ⟨w.heap.size, 1, none⟩ (.int .i64 0)).setCell ⟨w.heap.size, 2, none⟩ (.int .i64 0)) = V9 := ⟨_, rfl⟩
        rw [hV9] at B9 O9 E9 ⊢
        clear hV9
        have e0 := B9.cell 0; have e1 := B9.cell 1; have e2 := B9.cell 2
        refine bodyPost_ret (v := .tuple #[v4, .agg #[.int .i64 0, .int .i64 0, .int .i64 0]]) (by simp [results, Try.results7, go_sem, e0, e1, e2]) rfl ?_
        refine HQ.out _ V9 ?_ E9
        rw [HEQ.out]
        exact ⟨_, rfl, O9.lower (Nat.le_succ _), by have := HL.out; first | (simp only [List.length_append, List.length_cons, List.length_nil]; omega) | omega⟩
      · have hq0 : ((acc.length : Int) == 0) = false := by rw [beq_eq_false_iff_ne]; omega
        obtain ⟨j, hj⟩ : ∃ j, acc.length = j + 1 := ⟨acc.length - 1, by omega⟩
        obtain ⟨t, ht⟩ : ∃ t, acc[j]? = some t := ⟨acc[j]'(by omega), List.getElem?_eq_getElem _⟩
        have HTJ := Lib.hid ht
        have Y5 : Hid (IntKind.i64.wrap ((acc.length : Int) - 1) = (j : Int)) := Lib.hid (by rw [IntWalk.i64_in _ (by omega)]; omega)
        have Y6 : Hid (wrap64 ((acc.length : Int) - 1) = (j : Int)) := Lib.hid (by rw [IntWalk.wrap64_in _ (by omega)]; omega)
        have hjM : j < acc.length := by omega
        have hjMi : (j : Int) < (acc.length : Int) := by omega
        have hend : endL acc = decide (t.k = 3) := by
          unfold endL
          rw [List.getLast?_eq_getElem?, hj, Nat.add_sub_cancel, ht]
          by_cases q : t.k = 3
          · simp [q]
          · simp [q]
        obtain ⟨gg, hgg⟩ : ∃ gg, g3 = some (⟨gg, 0, none⟩ : Addr) := (by obtain ⟨g9, c9, e9, _⟩ := ownM_head HO.out (by omega); injection e9 with e9 _ _; exact ⟨g9, e9⟩)
        subst hgg
        have ck := owT_cell (i := j) HO.out HTJ.out 0 (by omega)
        rw [show (tkV t)[0]? = some (Value.int .i64 (t.k : Nat)) from rfl, Nat.add_zero] at ck
        obtain ⟨tk, htk⟩ : ∃ tk, t.k = tk := ⟨_, rfl⟩
        rw [htk] at ck
        clear ht hj hM0 hlS
        by_cases hk3 : t.k = 3
        · have HEQ : Hid (scL S 1 1 [] = .ok acc) := Lib.hid (by rw [HLA.out, hend, hk3]; simp)
          have hq3 : ((tk : Int) != 3) = false := by rw [bne_eq_false_iff_eq]; omega
          clear hend hk3 htk
          have y5 := Y5.out; have y6 := Y6.out
          have d0 := HB.out.cell 0; have df0 := HB.out.frozen 0
          have d1 := HB.out.cell 1; have df1 := HB.out.frozen 1
          have d2 := HB.out.cell 2; have df2 := HB.out.frozen 2
          go_wp2_with fail
          have B9 : Blk (((V.setCell ⟨w.heap.size, 0, none⟩ (.int .i64 0)).setCell ⟨w.heap.size, 1, none⟩ (.int .i64 0)).setCell ⟨w.heap.size, 2, none⟩ (.int .i64 0)) w.heap.size 25 #[.int .i64 0, .int .i64 0, .int .i64 0] := (((HB.out.set 0 (.int .i64 0)).set 1 (.int .i64 0)).set 2 (.int .i64 0))
          have O9 : OwT (w.heap.size + 1) (((V.setCell ⟨w.heap.size, 0, none⟩ (.int .i64 0)).setCell ⟨w.heap.size, 1, none⟩ (.int .i64 0)).setCell ⟨w.heap.size, 2, none⟩ (.int .i64 0)) (.slice (some ⟨gg, 0, none⟩) acc.length cap3) acc := (((HO.out.far (p := ⟨w.heap.size, 0, none⟩) (Nat.lt_succ_self w.heap.size) (.int .i64 0)).far (p := ⟨w.heap.size, 1, none⟩) (Nat.lt_succ_self w.heap.size) (.int .i64 0)).far (p := ⟨w.heap.size, 2, none⟩) (Nat.lt_succ_self w.heap.size) (.int .i64 0))
          have E9 : Below w.heap.size w (((V.setCell ⟨w.heap.size, 0, none⟩ (.int .i64 0)).setCell ⟨w.heap.size, 1, none⟩ (.int .i64 0)).setCell ⟨w.heap.size, 2, none⟩ (.int .i64 0)) := (((EE.out.setCell (p := ⟨w.heap.size, 0, none⟩) (Nat.le_refl _) (.int .i64 0)).setCell (p := ⟨w.heap.size, 1, none⟩) (Nat.le_refl _) (.int .i64 0)).setCell (p := ⟨w.heap.size, 2, none⟩) (Nat.le_refl _) (.int .i64 0))
          obtain ⟨V9, hV9⟩ : ∃ V9, (((V.setCell ⟨w.heap.size, 0, none⟩ (.int .i64 0)).setCell ⟨w.heap.size, 1, none⟩ (.int .i64 0)).setCell ⟨w.heap.size, 2, none⟩ (.int .i64 0)) = V9 := ⟨_, rfl⟩
          rw [hV9] at B9 O9 E9 ⊢
          clear hV9
          have e0 := B9.cell 0; have e1 := B9.cell 1; have e2 := B9.cell 2
          refine bodyPost_ret (v := .tuple #[(.slice (some ⟨gg, 0, none⟩) acc.length cap3), .agg #[.int .i64 0, .int .i64 0, .int .i64 0]]) (by simp [results, Try.results7, go_sem, e0, e1, e2]) rfl ?_
          refine HQ.out _ V9 ?_ E9
          rw [HEQ.out]
          exact ⟨_, rfl, O9.lower (Nat.le_succ _), by have := HL.out; first | (simp only [List.length_append, List.length_cons, List.length_nil]; omega) | omega⟩
        · have HEQ : Hid (scL S 1 1 [] = .ok (acc ++ [⟨3, [], 0, l, c⟩])) := Lib.hid (by rw [HLA.out, hend, decide_eq_false hk3]; rfl)
          have hq3 : ((tk : Int) != 3) = true := by rw [bne_iff_ne]; omega
          clear hend hk3 htk
          have y5 := Y5.out; have y6 := Y6.out
          go_wp2_with (at_builtin; refine append_tok rfl _ _ rfl (w.heap.size + 1) (.slice (some ⟨gg, 0, none⟩) acc.length cap3) acc rfl (HO.out.next ((Below.refl V.heap.size V).alloc (Nat.le_refl _) (.cells #[.int .i64 3, .string (ByteArray.mk #[]), .int .i64 0, .int .i64 (l : Nat), .int .i64 (c : Nat)] 31))) V.heap.size 1 ⟨3, [], 0, l, c⟩ #[.int .i64 3, .string (ByteArray.mk #[]), .int .i64 0, .int .i64 (l : Nat), .int .i64 (c : Nat)] rfl rfl (Blk.new V _ _) HLM.out (Nat.le_trans HS0.out (by simp)) ?_; intro v4 V4 o4 q4 keep4 sz4; have p4 := keep4 _ _ _ (HB.out.alloc _) HW.out; have HO4 := Lib.hid o4; have HP4 := Lib.hid p4; have E4 := Lib.hid ((EE.out.alloc (Nat.le_trans (Nat.le_succ _) HS0.out) _).trans (q4.mono (Nat.le_succ _))); clear o4 p4 q4 keep4 sz4; have d0 := HP4.out.cell 0; have df0 := HP4.out.frozen 0; have d1 := HP4.out.cell 1; have df1 := HP4.out.frozen 1; have d2 := HP4.out.cell 2; have df2 := HP4.out.frozen 2)
          have B9 : Blk (((V4.setCell ⟨w.heap.size, 0, none⟩ (.int .i64 0)).setCell ⟨w.heap.size, 1, none⟩ (.int .i64 0)).setCell ⟨w.heap.size, 2, none⟩ (.int .i64 0)) w.heap.size 25 #[.int .i64 0, .int .i64 0, .int .i64 0] := (((HP4.out.set 0 (.int .i64 0)).set 1 (.int .i64 0)).set 2 (.int .i64 0))
          have O9 : OwT (w.heap.size + 1) (((V4.setCell ⟨w.heap.size, 0, none⟩ (.int .i64 0)).setCell ⟨w.heap.size, 1, none⟩ (.int .i64 0)).setCell ⟨w.heap.size, 2, none⟩ (.int .i64 0)) v4 (acc ++ [⟨3, [], 0, l, c⟩]) := (((HO4.out.far (p := ⟨w.heap.size, 0, none⟩) (Nat.lt_succ_self w.heap.size) (.int .i64 0)).far (p := ⟨w.heap.size, 1, none⟩) (Nat.lt_succ_self w.heap.size) (.int .i64 0)).far (p := ⟨w.heap.size, 2, none⟩) (Nat.lt_succ_self w.heap.size) (.int .i64 0))
          have E9 : Below w.heap.size w (((V4.setCell ⟨w.heap.size, 0, none⟩ (.int .i64 0)).setCell ⟨w.heap.size, 1, none⟩ (.int .i64 0)).setCell ⟨w.heap.size, 2, none⟩ (.int .i64 0)) := (((E4.out.setCell (p := ⟨w.heap.size, 0, none⟩) (Nat.le_refl _) (.int .i64 0)).setCell (p := ⟨w.heap.size, 1, none⟩) (Nat.le_refl _) (.int .i64 0)).setCell (p := ⟨w.heap.size, 2, none⟩) (Nat.le_refl _) (.int .i64 0))
          obtain ⟨V9, hV9⟩ : ∃ V9, (((V4.setCell ⟨w.heap.size, 0, none⟩ (.int .i64 0)).setCell ⟨w.heap.size, 1, none⟩ (.int .i64 0)).setCell ⟨w.heap.size, 2, none⟩ (.int .i64 0)) = V9 := ⟨_, rfl⟩
          rw [hV9] at B9 O9 E9 ⊢
          clear hV9
          have e0 := B9.cell 0; have e1 := B9.cell 1; have e2 := B9.cell 2
          refine bodyPost_ret (v := .tuple #[v4, .agg #[.int .i64 0, .int .i64 0, .int .i64 0]]) (by simp [results, Try.results7, go_sem, e0, e1, e2]) rfl ?_
          refine HQ.out _ V9 ?_ E9
          rw [HEQ.out]
          exact ⟨_, rfl, O9.lower (Nat.le_succ _), by have := HL.out; first | (simp only [List.length_append, List.length_cons, List.length_nil]; omega) | omega⟩
end Go.Proofs.Ythchgjjnlnadnaa
