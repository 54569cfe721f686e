/- Lexer: scanLine. -/
import Derived.Test.YthchgjjnlnadnaaRows
import Derived.Test.YthchgjjnlnadnaaRowKit
import Derived.Test.YthchgjjnlnadnaaShelf
import Derived.Test.YthchgjjnlnadnaaBlocks
import Derived.Test.YthchgjjnlnadnaaBL
import Derived.Test.YthchgjjnlnadnaaLexM
import Derived.Test.YthchgjjnlnadnaaRowL
import Derived.Test.YthchgjjnlnadnaaRowM
import Derived.Test.YthchgjjnlnadnaaLexA
import Derived.Test.YthchgjjnlnadnaaLexB
import Derived.Test.YthchgjjnlnadnaaLexC
import Derived.Test.YthchgjjnlnadnaaLexD
import Derived.Test.YthchgjjnlnadnaaLexE
import Derived.Laws.MakeOwn
import Derived.Laws.AppendOwnNone
import Derived.WalkKit
import Derived.IntWalk
import Derived.Lib.Hide
import Derived.WalkSpells
import Derived.WalkLawsBesides
import Derived.Laws.IdiomStrings
import Derived.Laws.OwnMore
import Derived.OwnWalk
import Derived.Deep.QuietTactic
import Derived.BigQuiet
import Derived.BigRegion
import Derived.Deep.LoopGhost
namespace Go.Proofs.Ythchgjjnlnadnaa
open Go.RowKit Go.Sort
set_option linter.unusedSimpArgs false
set_option linter.unusedVariables false
set_option maxRecDepth 100000 in
set_option maxHeartbeats 20000000 in
theorem line_scan (T : List UInt8) (l : Nat) (w : World) (hT : ∀ y, y ∈ T → y.toNat ≠ 10) (hl : T.length ≤ 70000) (hl2 : l ≤ 100000) :
    Calls Try.prog 16 #[.string (bL T), .int .i64 l] w (LnR T l w) := by
  have HT10 := Lib.hid hT
  have hs := bL_size T
  have HX : Hid (∀ k x, T[k]? = some x → ∀ h : k < (bL T).size, ((bL T)[k]'h).toNat = x.toNat) := Lib.hid (fun k x hx => ixL T k x hx)
  have HSB : Hid (∀ k x, T[k]? = some x → (bL T).extract k (bL T).size = bL (x :: T.drop (k + 1))) := Lib.hid (fun k x hx => by
    rw [bL_sub, drop_cons hx]
    have e : (x :: T.drop (k + 1)).length ≤ (bL T).size - k := by
      rw [← drop_cons hx, List.length_drop, bL_size]; omega
    rw [List.take_of_length_le e])
  obtain ⟨s, hss⟩ : ∃ s, bL T = s := ⟨_, rfl⟩
  rw [hss] at hs HX HSB ⊢
  have HL : Hid (s.size = T.length) := Lib.hid hs
  have hsz : s.size ≤ 70000 := by omega
  obtain ⟨Q, hQ⟩ : ∃ Q : Ending → World → Prop, LnR T l w = Q := ⟨_, rfl⟩
  have HQ : Hid (∀ v er p c w', Below w.heap.size w w' → ((er = 0 ∧ p = 0 ∧ c = 0 ∧ ∃ L, OwT w.heap.size w' v L ∧ LnW T l L ∧ L.length ≤ T.length) ∨ (er ≠ 0 ∧ er ≤ 1000 ∧ p = l ∧ LnE T l er c ∧ c ≤ T.length + 1 ∧ v = .slice none 0 0)) → Q (.returned (.tuple #[v, .agg #[.int .i64 (er : Nat), .int .i64 (p : Nat), .int .i64 (c : Nat)]])) w') := Lib.hid (fun v er p c w' h1 h2 => by rw [← hQ]; exact ⟨v, er, p, c, rfl, h1, h2⟩)
  rw [hQ]
  have B0 := Blk.new w #[.int .i64 0, .int .i64 0, .int .i64 0] 25
  have E0 := (Below.refl w.heap.size w).alloc (Nat.le_refl _) (.cells #[.int .i64 0, .int .i64 0, .int .i64 0] 25)
  obtain ⟨V0, hV⟩ : ∃ V, w.alloc (.cells #[.int .i64 0, .int .i64 0, .int .i64 0] 25) = V := ⟨_, rfl⟩
  rw [hV] at B0 E0
  have HV := Lib.hid hV
  have HB := Lib.hid B0; have EE := Lib.hid E0
  clear hQ B0 E0 hV hss hs hT hl
  go_enter Try.func16, Try.ntmps16
  go_wp2_with fail
  rw [HV.out]
  go_loopg [6, 7] s.size (fun gh v iv wr => ∃ (i : Nat) (L : List Tk), i ≤ s.size ∧ gh = s.size - i ∧ iv = .int .i64 i ∧ Hid (OwT (w.heap.size + 1) wr v L) ∧ Hid (LnI T l i L) ∧ Hid (L.length ≤ i) ∧ Hid (Blk wr w.heap.size 25 #[.int .i64 0, .int .i64 0, .int .i64 0]) ∧ Hid (Below w.heap.size w wr))
  case atStart => exact ⟨0, [], Nat.zero_le _, rfl, rfl, Lib.hid (owT_nil _ _), Lib.hid (lnI_zero T l), Lib.hid (Nat.le_refl _), HB, EE⟩
  case round =>
    clear HB EE
    obtain ⟨i, L, hi, rfl, rfl, HO, HI, HLL, HB, EE⟩ := hrel
    rename World => V
    by_cases his : i < s.size
    · have hii : (i : Int) < (s.size : Int) := by omega
      obtain ⟨x, hx⟩ : ∃ x, T[i]? = some x := ⟨T[i]'(by rw [← HL.out]; exact his), List.getElem?_eq_getElem _⟩
      have g := HX.out i x hx his
      have HXX := Lib.hid hx
      have h3 : kndL x ≠ 3 := fun q => HT10.out x (List.mem_of_getElem? hx) (by
        unfold kndL at q
        repeat' split at q
        all_goals omega)
      obtain ⟨y, hy⟩ : ∃ y, x.toNat = y := ⟨_, rfl⟩
      have HKY : Hid (kndL x = kndN y) := Lib.hid (by rw [kndL_eq, hy])
      rw [hy] at g
      clear hx hy
      by_cases k2 : kndL x = 2
      · have y35 : y = 35 := by
          rw [HKY.out] at k2
          unfold kndN at k2
          repeat' split at k2
          all_goals omega
        subst y35
        have hcmp : ((35 : Int) != 35) = false := by decide
        have HF : Hid (LnW T l L) := Lib.hid (lnW_hash HI.out HXX.out k2 HT10.out)
        have HLT : Hid (L.length ≤ T.length) := Lib.hid (by have := HLL.out; have := HL.out; omega)
        clear k2 h3
        have d0 := HB.out.cell 0; have df0 := HB.out.frozen 0
        have d1 := HB.out.cell 1; have df1 := HB.out.frozen 1
        have d2 := HB.out.cell 2; have df2 := HB.out.frozen 2
        go_wp2_with fail
        have B1 : Blk (((V.setCell ⟨w.heap.size, 0, none⟩ (.int .i64 0)).setCell ⟨w.heap.size, 1, none⟩ (.int .i64 0)).setCell ⟨w.heap.size, 2, none⟩ (.int .i64 0)) w.heap.size 25 #[.int .i64 0, .int .i64 0, .int .i64 0] := (((HB.out.set 0 (.int .i64 0)).set 1 (.int .i64 0)).set 2 (.int .i64 0))
        have O1 : OwT (w.heap.size + 1) (((V.setCell ⟨w.heap.size, 0, none⟩ (.int .i64 0)).setCell ⟨w.heap.size, 1, none⟩ (.int .i64 0)).setCell ⟨w.heap.size, 2, none⟩ (.int .i64 0)) u6 L := (((HO.out.far (p := ⟨w.heap.size, 0, none⟩) (Nat.lt_succ_self w.heap.size) (.int .i64 0)).far (p := ⟨w.heap.size, 1, none⟩) (Nat.lt_succ_self w.heap.size) (.int .i64 0)).far (p := ⟨w.heap.size, 2, none⟩) (Nat.lt_succ_self w.heap.size) (.int .i64 0))
        have E1 : Below w.heap.size w (((V.setCell ⟨w.heap.size, 0, none⟩ (.int .i64 0)).setCell ⟨w.heap.size, 1, none⟩ (.int .i64 0)).setCell ⟨w.heap.size, 2, none⟩ (.int .i64 0)) := (((EE.out.setCell (p := ⟨w.heap.size, 0, none⟩) (Nat.le_refl _) (.int .i64 0)).setCell (p := ⟨w.heap.size, 1, none⟩) (Nat.le_refl _) (.int .i64 0)).setCell (p := ⟨w.heap.size, 2, none⟩) (Nat.le_refl _) (.int .i64 0))
        obtain ⟨V1, hV1⟩ : ∃ V1, (((V.setCell ⟨w.heap.size, 0, none⟩ (.int .i64 0)).setCell ⟨w.heap.size, 1, none⟩ (.int .i64 0)).setCell ⟨w.heap.size, 2, none⟩ (.int .i64 0)) = V1 := ⟨_, rfl⟩
        rw [hV1] at B1 O1 E1 ⊢
        clear hV1
        have e0 := B1.cell 0; have e1 := B1.cell 1; have e2 := B1.cell 2
        refine bodyPost_ret (v := .tuple #[u6, .agg #[.int .i64 0, .int .i64 0, .int .i64 0]]) (by simp [results, Try.results16, go_sem, e0, e1, e2]) rfl ?_
        exact HQ.out u6 0 0 0 V1 E1 (Or.inl ⟨rfl, rfl, rfl, L, O1.lower (Nat.le_succ _), HF.out, HLT.out⟩)
      · have y35 : y ≠ 35 := fun q => k2 (by rw [HKY.out, q]; rfl)
        have hcmp : ((y : Int) == 35) = false := by rw [beq_eq_false_iff_ne]; omega
        have hcmp2 : ((y : Int) != 35) = true := by rw [bne_iff_ne]; omega
        have KB := Lib.hid (fun W => blk_any y W)
        by_cases k1 : kndL x = 1
        · have e : decide (y = 32 ∨ y = 9 ∨ y = 13) = true := by
            rw [decide_eq_true_iff]
            rw [HKY.out] at k1
            unfold kndN at k1
            repeat' split at k1
            all_goals omega
          rw [e] at KB
          have HN : Hid (LnI T l (i + 1) L) := Lib.hid (by
            have h := lnI_go HI.out HXX.out k1 (by omega) (by omega) (fun q => by omega)
            rw [rnL_one (by omega), tokL_none (Or.inl rfl), List.append_nil] at h
            exact h)
          clear e k1 k2 h3 y35
          go_wp2_with fail
          refine (KB.out V).mono ?_
          rintro e w1 ⟨rfl, rfl⟩
          go_wp2_with fail
          go_roundg (s.size - (i + 1))
          case measure => omega
          case rel => exact ⟨i + 1, L, by omega, rfl, by go_num, HO, HN, Lib.hid (by have := HLL.out; omega), HB, EE⟩
        · have e : decide (y = 32 ∨ y = 9 ∨ y = 13) = false := by
            rw [decide_eq_false_iff_not]
            intro q
            exact k1 (by rw [HKY.out]; unfold kndN; rw [if_pos q])
          rw [e] at KB
          have hk : kndL x = 0 ∨ kndL x = 4 ∨ kndL x = 5 := by
            have h6 : kndL x ≤ 5 := by unfold kndL; repeat' split
                                       all_goals omega
            omega
          have hsub := HSB.out i x HXX.out
          have KF := Lib.hid (fun W => first_two x (T.drop (i + 1)) W hk (by rw [← drop_cons HXX.out, List.length_drop]; have := HL.out; omega))
          obtain ⟨r, hr⟩ : ∃ r, bL (x :: T.drop (i + 1)) = r := ⟨_, rfl⟩
          rw [hr] at hsub KF
          clear e k1 k2 h3 y35 hk hr
          go_wp2_with fail
          refine (KB.out V).mono ?_
          rintro e w1 ⟨rfl, rfl⟩
          go_wp2_with fail
          refine (KF.out V).mono ?_
          rintro e V1 ⟨a, b, c, er, rfl, hf, hb⟩
          have HB1 := Lib.hid (HB.out.next hb)
          have HO1 := Lib.hid (HO.out.next hb)
          have E1 := Lib.hid (EE.out.trans (hb.mono EE.out.size))
          clear hb KB KF HB HO EE
          have hlt := HB1.out.lt
          rcases hf with ⟨rfl, k, hk45, hk, hnk, hbb, hc, ha, htok⟩ | ⟨rfl, hk⟩ | ⟨rfl, hk, hnk⟩
          · obtain ⟨m, hm⟩ : ∃ m, b.length = m := ⟨_, rfl⟩
            have hbs : (bL b).size = m := by rw [bL_size]; exact hm
            have hrl := rnL_len k (T.drop (i + 1))
            have him : i + m ≤ s.size := by
              rw [List.length_drop] at hrl
              have := HL.out
              rw [← hm, hbb, List.length_cons]; omega
            have hm0 : 0 < m := by rw [← hm, hbb, List.length_cons]; omega
            have HI2 : Hid (LnI T l (i + m) (L ++ [⟨a, b, c, l, i + 1⟩])) := Lib.hid (by
              have h := lnI_go HI.out HXX.out hk (by omega) (by omega) hnk
              rw [htok] at h
              have e : i + 1 + (rnL k (List.drop (i + 1) T)).length = i + m := by rw [← hm, hbb, List.length_cons]; omega
              rw [e] at h
              exact h)
            have hlen : L.length ≤ 100000 := by have := HLL.out; omega
            clear hm hrl hbb hk hnk htok hk45
            have Y1 : Hid (IntKind.i64.wrap ((i : Int) + 1) = (i : Int) + 1) := Lib.hid (IntWalk.i64_in _ (by omega))
            have Y2 : Hid (wrap64 ((i : Int) + 1) = (i : Int) + 1) := Lib.hid (IntWalk.wrap64_in _ (by omega))
            have Y3 : Hid (IntKind.i64.wrap ((i : Int) + (m : Int)) = (i : Int) + (m : Int)) := Lib.hid (IntWalk.i64_in _ (by omega))
            have Y4 : Hid (wrap64 ((i : Int) + (m : Int)) = (i : Int) + (m : Int)) := Lib.hid (IntWalk.wrap64_in _ (by omega))
            have HOX : OwT (w.heap.size + 1) ((V1.alloc (.cells #[.int .i64 (a : Nat), .string (bL b), .int .i64 (c : Nat), .int .i64 (l : Nat), .int .i64 ((i : Int) + 1)] 31)).alloc (.cells #[.int .i64 (a : Nat), .string (bL b), .int .i64 (c : Nat), .int .i64 (l : Nat), .int .i64 ((i : Int) + 1)] 31)) u6 L := (HO1.out.next ((Below.refl V1.heap.size V1).alloc (Nat.le_refl _) (.cells #[.int .i64 (a : Nat), .string (bL b), .int .i64 (c : Nat), .int .i64 (l : Nat), .int .i64 ((i : Int) + 1)] 31))).next ((Below.refl _ _).alloc (Nat.le_refl _) (.cells #[.int .i64 (a : Nat), .string (bL b), .int .i64 (c : Nat), .int .i64 (l : Nat), .int .i64 ((i : Int) + 1)] 31))
            have HGX : Blk ((V1.alloc (.cells #[.int .i64 (a : Nat), .string (bL b), .int .i64 (c : Nat), .int .i64 (l : Nat), .int .i64 ((i : Int) + 1)] 31)).alloc (.cells #[.int .i64 (a : Nat), .string (bL b), .int .i64 (c : Nat), .int .i64 (l : Nat), .int .i64 ((i : Int) + 1)] 31)) (V1.heap.size + 1) 31 #[.int .i64 (a : Nat), .string (bL b), .int .i64 (c : Nat), .int .i64 (l : Nat), .int .i64 ((i : Int) + 1)] := by
              have h := Blk.new (V1.alloc (.cells #[.int .i64 (a : Nat), .string (bL b), .int .i64 (c : Nat), .int .i64 (l : Nat), .int .i64 ((i : Int) + 1)] 31)) #[.int .i64 (a : Nat), .string (bL b), .int .i64 (c : Nat), .int .i64 (l : Nat), .int .i64 ((i : Int) + 1)] 31
              rw [World.size_alloc] at h
              exact h
            have HTX : Blk ((V1.alloc (.cells #[.int .i64 (a : Nat), .string (bL b), .int .i64 (c : Nat), .int .i64 (l : Nat), .int .i64 ((i : Int) + 1)] 31)).alloc (.cells #[.int .i64 (a : Nat), .string (bL b), .int .i64 (c : Nat), .int .i64 (l : Nat), .int .i64 ((i : Int) + 1)] 31)) V1.heap.size 31 #[.int .i64 (a : Nat), .string (bL b), .int .i64 (c : Nat), .int .i64 (l : Nat), .int .i64 ((i : Int) + 1)] := (Blk.new V1 _ _).alloc _
            have HPX : Blk ((V1.alloc (.cells #[.int .i64 (a : Nat), .string (bL b), .int .i64 (c : Nat), .int .i64 (l : Nat), .int .i64 ((i : Int) + 1)] 31)).alloc (.cells #[.int .i64 (a : Nat), .string (bL b), .int .i64 (c : Nat), .int .i64 (l : Nat), .int .i64 ((i : Int) + 1)] 31)) w.heap.size 25 #[.int .i64 0, .int .i64 0, .int .i64 0] := (HB1.out.alloc _).alloc _
            have EX : Below w.heap.size w ((V1.alloc (.cells #[.int .i64 (a : Nat), .string (bL b), .int .i64 (c : Nat), .int .i64 (l : Nat), .int .i64 ((i : Int) + 1)] 31)).alloc (.cells #[.int .i64 (a : Nat), .string (bL b), .int .i64 (c : Nat), .int .i64 (l : Nat), .int .i64 ((i : Int) + 1)] 31)) := (E1.out.alloc (by omega) _).alloc (by simp; omega) _
            have hown1 : u6.ownBlock ≠ some V1.heap.size := fun e => by
              have h : V1.ownsRow (w.heap.size + 1) 31 5 u6 L.length (encT L) := HO1.out
              have := (h.lt _ e).2
              omega
            have hown2 : u6.ownBlock ≠ some w.heap.size := fun e => by
              have h : V1.ownsRow (w.heap.size + 1) 31 5 u6 L.length (encT L) := HO1.out
              have := (h.lt _ e).1
              omega
            have HW1 := Lib.hid hown1; have HW2 := Lib.hid hown2
            have HOXX := Lib.hid HOX; have HGXX := Lib.hid HGX; have HTXX := Lib.hid HTX; have HPXX := Lib.hid HPX; have EXX := Lib.hid EX
            have HSX : Hid (w.heap.size + 1 ≤ ((V1.alloc (.cells #[.int .i64 (a : Nat), .string (bL b), .int .i64 (c : Nat), .int .i64 (l : Nat), .int .i64 ((i : Int) + 1)] 31)).alloc (.cells #[.int .i64 (a : Nat), .string (bL b), .int .i64 (c : Nat), .int .i64 (l : Nat), .int .i64 ((i : Int) + 1)] 31)).heap.size) := Lib.hid (by simp; omega)
            clear HOX HGX HTX HPX EX hown1 hown2
            have w1 := Y1.out; have w2 := Y2.out
            go_wp2_with (at_builtin; refine append_tok rfl _ _ rfl (w.heap.size + 1) u6 L rfl HOXX.out (V1.heap.size + 1) 1 ⟨a, b, c, l, i + 1⟩ #[.int .i64 (a : Nat), .string (bL b), .int .i64 (c : Nat), .int .i64 (l : Nat), .int .i64 ((i : Int) + 1)] rfl rfl HGXX.out hlen HSX.out ?_; intro v2 V2 o2 q2 keep sz; have t2 := keep _ _ _ HTXX.out HW1.out; have p2 := Lib.hid (keep _ _ _ HPXX.out HW2.out); have c1 := t2.cell 1; have HO2 := Lib.hid o2; have E2 := Lib.hid (EXX.out.trans (q2.mono (Nat.le_succ _))); clear keep o2 q2 t2 sz HOXX HGXX HTXX HPXX EXX; have z1 := Y3.out; have z2 := Y4.out)
            clear z1 z2 w1 w2
            go_roundg (s.size - (i + m))
            case measure => omega
            case rel => exact ⟨i + m, L ++ [⟨a, b, c, l, i + 1⟩], by omega, rfl, by go_num, HO2, HI2, Lib.hid (by rw [List.length_append, List.length_singleton]; have := HLL.out; omega), p2, E2⟩
          · have hne : ¬ w.heap.size = V1.heap.size := by omega
            have hne2 : ¬ V1.heap.size = w.heap.size := by omega
            have q0 := HB1.out.cell 0; have qf0 := HB1.out.frozen 0
            have q1 := HB1.out.cell 1; have qf1 := HB1.out.frozen 1
            have q2 := HB1.out.cell 2; have qf2 := HB1.out.frozen 2
            have HLE : Hid (LnE T l 190 (i + 1)) := Lib.hid (lnE_none HI.out HXX.out hk)
            have Y1 : Hid (IntKind.i64.wrap ((i : Int) + 1) = (i : Int) + 1) := Lib.hid (IntWalk.i64_in _ (by omega))
            have Y2 : Hid (wrap64 ((i : Int) + 1) = (i : Int) + 1) := Lib.hid (IntWalk.wrap64_in _ (by omega))
            have w1 := Y1.out; have w2 := Y2.out
            go_wp2_with fail
            clear w1 w2
            have B3 : Blk ((((V1.setCell ⟨w.heap.size, 0, none⟩ (.int .i64 190)).setCell ⟨w.heap.size, 1, none⟩ (.int .i64 (l : Nat))).setCell ⟨w.heap.size, 2, none⟩ (.int .i64 ((i : Int) + 1))).alloc (.cells #[.int .i64 (a : Nat), .string (bL b), .int .i64 (c : Nat), .int .i64 0, .int .i64 0] 31)) w.heap.size 25 #[.int .i64 190, .int .i64 (l : Nat), .int .i64 ((i : Int) + 1)] := ((((HB1.out.set 0 (.int .i64 190)).set 1 (.int .i64 (l : Nat))).set 2 (.int .i64 ((i : Int) + 1)))).alloc _
            have E3 : Below w.heap.size w ((((V1.setCell ⟨w.heap.size, 0, none⟩ (.int .i64 190)).setCell ⟨w.heap.size, 1, none⟩ (.int .i64 (l : Nat))).setCell ⟨w.heap.size, 2, none⟩ (.int .i64 ((i : Int) + 1))).alloc (.cells #[.int .i64 (a : Nat), .string (bL b), .int .i64 (c : Nat), .int .i64 0, .int .i64 0] 31)) := ((((E1.out.setCell (p := ⟨w.heap.size, 0, none⟩) (Nat.le_refl _) (.int .i64 190)).setCell (p := ⟨w.heap.size, 1, none⟩) (Nat.le_refl _) (.int .i64 (l : Nat))).setCell (p := ⟨w.heap.size, 2, none⟩) (Nat.le_refl _) (.int .i64 ((i : Int) + 1)))).alloc (by simp; omega) _
            obtain ⟨V3, hV3⟩ : ∃ V3, ((((V1.setCell ⟨w.heap.size, 0, none⟩ (.int .i64 190)).setCell ⟨w.heap.size, 1, none⟩ (.int .i64 (l : Nat))).setCell ⟨w.heap.size, 2, none⟩ (.int .i64 ((i : Int) + 1))).alloc (.cells #[.int .i64 (a : Nat), .string (bL b), .int .i64 (c : Nat), .int .i64 0, .int .i64 0] 31)) = V3 := ⟨_, rfl⟩
            rw [hV3] at B3 E3 ⊢
            clear hV3
            have e0 := B3.cell 0; have e1 := B3.cell 1; have e2 := B3.cell 2
            refine bodyPost_ret (v := .tuple #[.slice none 0 0, .agg #[.int .i64 190, .int .i64 (l : Nat), .int .i64 ((i : Int) + 1)]]) (by simp [results, Try.results16, go_sem, e0, e1, e2]) rfl ?_
            have h := HQ.out (.slice none 0 0) 190 l (i + 1) V3 E3 (Or.inr ⟨by omega, by omega, rfl, HLE.out, by have := HL.out; omega, rfl⟩)
            exact h
          · have hne : ¬ w.heap.size = V1.heap.size := by omega
            have hne2 : ¬ V1.heap.size = w.heap.size := by omega
            have q0 := HB1.out.cell 0; have qf0 := HB1.out.frozen 0
            have q1 := HB1.out.cell 1; have qf1 := HB1.out.frozen 1
            have q2 := HB1.out.cell 2; have qf2 := HB1.out.frozen 2
            have HLE : Hid (LnE T l 191 (i + 1)) := Lib.hid (lnE_num HI.out HXX.out hk hnk)
            have Y1 : Hid (IntKind.i64.wrap ((i : Int) + 1) = (i : Int) + 1) := Lib.hid (IntWalk.i64_in _ (by omega))
            have Y2 : Hid (wrap64 ((i : Int) + 1) = (i : Int) + 1) := Lib.hid (IntWalk.wrap64_in _ (by omega))
            have w1 := Y1.out; have w2 := Y2.out
            go_wp2_with fail
            clear w1 w2
            have B3 : Blk ((((V1.setCell ⟨w.heap.size, 0, none⟩ (.int .i64 191)).setCell ⟨w.heap.size, 1, none⟩ (.int .i64 (l : Nat))).setCell ⟨w.heap.size, 2, none⟩ (.int .i64 ((i : Int) + 1))).alloc (.cells #[.int .i64 (a : Nat), .string (bL b), .int .i64 (c : Nat), .int .i64 0, .int .i64 0] 31)) w.heap.size 25 #[.int .i64 191, .int .i64 (l : Nat), .int .i64 ((i : Int) + 1)] := ((((HB1.out.set 0 (.int .i64 191)).set 1 (.int .i64 (l : Nat))).set 2 (.int .i64 ((i : Int) + 1)))).alloc _
            have E3 : Below w.heap.size w ((((V1.setCell ⟨w.heap.size, 0, none⟩ (.int .i64 191)).setCell ⟨w.heap.size, 1, none⟩ (.int .i64 (l : Nat))).setCell ⟨w.heap.size, 2, none⟩ (.int .i64 ((i : Int) + 1))).alloc (.cells #[.int .i64 (a : Nat), .string (bL b), .int .i64 (c : Nat), .int .i64 0, .int .i64 0] 31)) := ((((E1.out.setCell (p := ⟨w.heap.size, 0, none⟩) (Nat.le_refl _) (.int .i64 191)).setCell (p := ⟨w.heap.size, 1, none⟩) (Nat.le_refl _) (.int .i64 (l : Nat))).setCell (p := ⟨w.heap.size, 2, none⟩) (Nat.le_refl _) (.int .i64 ((i : Int) + 1)))).alloc (by simp; omega) _
            obtain ⟨V3, hV3⟩ : ∃ V3, ((((V1.setCell ⟨w.heap.size, 0, none⟩ (.int .i64 191)).setCell ⟨w.heap.size, 1, none⟩ (.int .i64 (l : Nat))).setCell ⟨w.heap.size, 2, none⟩ (.int .i64 ((i : Int) + 1))).alloc (.cells #[.int .i64 (a : Nat), .string (bL b), .int .i64 (c : Nat), .int .i64 0, .int .i64 0] 31)) = V3 := ⟨_, rfl⟩
            rw [hV3] at B3 E3 ⊢
            clear hV3
            have e0 := B3.cell 0; have e1 := B3.cell 1; have e2 := B3.cell 2
            refine bodyPost_ret (v := .tuple #[.slice none 0 0, .agg #[.int .i64 191, .int .i64 (l : Nat), .int .i64 ((i : Int) + 1)]]) (by simp [results, Try.results16, go_sem, e0, e1, e2]) rfl ?_
            have h := HQ.out (.slice none 0 0) 191 l (i + 1) V3 E3 (Or.inr ⟨by omega, by omega, rfl, HLE.out, by have := HL.out; omega, rfl⟩)
            exact h
    · obtain rfl : i = s.size := by omega
      have hii : ¬ (s.size : Int) < (s.size : Int) := by omega
      have HF : Hid (LnW T l L) := Lib.hid (lnW_end (by rw [← HL.out]; exact HI.out))
      have HLT : Hid (L.length ≤ T.length) := Lib.hid (by have := HLL.out; have := HL.out; omega)
      have d0 := HB.out.cell 0; have df0 := HB.out.frozen 0
      have d1 := HB.out.cell 1; have df1 := HB.out.frozen 1
      have d2 := HB.out.cell 2; have df2 := HB.out.frozen 2
      go_wp2_with fail
      have B1 : Blk (((V.setCell ⟨w.heap.size, 0, none⟩ (.int .i64 0)).setCell ⟨w.heap.size, 1, none⟩ (.int .i64 0)).setCell ⟨w.heap.size, 2, none⟩ (.int .i64 0)) w.heap.size 25 #[.int .i64 0, .int .i64 0, .int .i64 0] := (((HB.out.set 0 (.int .i64 0)).set 1 (.int .i64 0)).set 2 (.int .i64 0))
      have O1 : OwT (w.heap.size + 1) (((V.setCell ⟨w.heap.size, 0, none⟩ (.int .i64 0)).setCell ⟨w.heap.size, 1, none⟩ (.int .i64 0)).setCell ⟨w.heap.size, 2, none⟩ (.int .i64 0)) u6 L := (((HO.out.far (p := ⟨w.heap.size, 0, none⟩) (Nat.lt_succ_self w.heap.size) (.int .i64 0)).far (p := ⟨w.heap.size, 1, none⟩) (Nat.lt_succ_self w.heap.size) (.int .i64 0)).far (p := ⟨w.heap.size, 2, none⟩) (Nat.lt_succ_self w.heap.size) (.int .i64 0))
      have E1 : Below w.heap.size w (((V.setCell ⟨w.heap.size, 0, none⟩ (.int .i64 0)).setCell ⟨w.heap.size, 1, none⟩ (.int .i64 0)).setCell ⟨w.heap.size, 2, none⟩ (.int .i64 0)) := (((EE.out.setCell (p := ⟨w.heap.size, 0, none⟩) (Nat.le_refl _) (.int .i64 0)).setCell (p := ⟨w.heap.size, 1, none⟩) (Nat.le_refl _) (.int .i64 0)).setCell (p := ⟨w.heap.size, 2, none⟩) (Nat.le_refl _) (.int .i64 0))
      obtain ⟨V1, hV1⟩ : ∃ V1, (((V.setCell ⟨w.heap.size, 0, none⟩ (.int .i64 0)).setCell ⟨w.heap.size, 1, none⟩ (.int .i64 0)).setCell ⟨w.heap.size, 2, none⟩ (.int .i64 0)) = V1 := ⟨_, rfl⟩
      rw [hV1] at B1 O1 E1 ⊢
      clear hV1
      have e0 := B1.cell 0; have e1 := B1.cell 1; have e2 := B1.cell 2
      refine bodyPost_ret (v := .tuple #[u6, .agg #[.int .i64 0, .int .i64 0, .int .i64 0]]) (by simp [results, Try.results16, go_sem, e0, e1, e2]) rfl ?_
      exact HQ.out u6 0 0 0 V1 E1 (Or.inl ⟨rfl, rfl, rfl, L, O1.lower (Nat.le_succ _), HF.out, HLT.out⟩)
end Go.Proofs.Ythchgjjnlnadnaa
