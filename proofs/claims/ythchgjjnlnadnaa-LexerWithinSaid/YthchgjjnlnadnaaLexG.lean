/- Lexer: Scan. -/
import Derived.Test.YthchgjjnlnadnaaRows
import Derived.Test.YthchgjjnlnadnaaRowKit
import Derived.Test.YthchgjjnlnadnaaShelf
import Derived.Test.YthchgjjnlnadnaaBlocks
import Derived.Test.YthchgjjnlnadnaaBL
import Derived.Test.YthchgjjnlnadnaaLexM
import Derived.Test.YthchgjjnlnadnaaRowL
import Derived.Test.YthchgjjnlnadnaaRowM
import Derived.Test.YthchgjjnlnadnaaLexA
import Derived.Test.YthchgjjnlnadnaaLexB
import Derived.Test.YthchgjjnlnadnaaLexC
import Derived.Test.YthchgjjnlnadnaaLexD
import Derived.Test.YthchgjjnlnadnaaLexE
import Derived.Test.YthchgjjnlnadnaaLexF
import Derived.Test.YthchgjjnlnadnaaCut
import Derived.Laws.MakeOwn
import Derived.Laws.AppendOwnNone
import Derived.WalkKit
import Derived.IntWalk
import Derived.Lib.Hide
import Derived.WalkSpells
import Derived.WalkLawsBesides
import Derived.Laws.IdiomStrings
import Derived.Laws.OwnMore
import Derived.OwnWalk
import Derived.Deep.QuietTactic
import Derived.BigQuiet
import Derived.BigRegion
import Derived.Deep.LoopGhost
namespace Go.Proofs.Ythchgjjnlnadnaa
open Go.RowKit Go.Sort
set_option linter.unusedSimpArgs false
set_option linter.unusedVariables false
theorem append_toks {w : World} {ops : Array Oper} {rest : List Oper} {o : Oper} {a : Act} {Q : Exit → Act → World → Prop} (hgd : o.guard = none) (s x : Operand)
    (ho : o.op = .call { callee := .builtin .append, args := #[s, x], argTypes := #[22, 22] }) (base b2 : Nat) (v v2 : Value) (L L2 : List Tk) (hs : a.eval s = v) (hown : OwT base w v L)
    (hx : a.eval x = v2) (h2 : OwT b2 w v2 L2) (hsm : L.length + L2.length ≤ 200000) (hbase : base ≤ w.heap.size)
    (h : ∀ v' w', OwT base w' v' (L ++ L2) → Below base w w' → (∀ b t cs, Blk w b t cs → v.ownBlock ≠ some b → Blk w' b t cs) → wpList Try.prog ops Q rest (a.put o.dst v') w') : wpList Try.prog ops Q (o :: rest) a w := by
  obtain ⟨i0, hi, hz0, hz1, hz2⟩ := info_parts tokInfo
  have h2' : w.ownsRow b2 31 5 v2 L2.length (encT L2) := h2
  rcases h2'.2 with ⟨e, hn⟩ | ⟨g, cap, cur, e, hg, hr⟩
  · obtain rfl := List.length_eq_zero_iff.1 hn
    subst e
    refine wpList_append_own_none hgd s x _ ho base 31 i0 5 Try.underlying22 hi v L.length (encT L) hs hown hx ?_
    exact h v w (by rw [List.append_nil]; exact hown) (Below.refl _ _) (fun _ _ _ hb _ => hb)
  · subst e
    refine wpList_append_own w hgd s x _ ho base 31 i0 (.agg #[.int .i64 0, .string ByteArray.empty, .int .i64 0, .int .i64 0, .int .i64 0]) 5 48 Try.underlying22 hi hz0 hz1 hz2 rfl (by decide) v L.length (encT L) hs hown ⟨g, 0, none⟩ L2.length cap (encT L2) hx (encT_len L2) (fun j u e => h2'.cells (g := g) rfl j u e) (encT_ones L2) (by unfold maxLen; omega) (by omega) hbase ?_
    intro v' w' h1 hgr _
    refine h v' w' ?_ ((Below.refl base w).grown hgr hbase (fun g hg => by first | exact ownR_ge hown hg | exact ownR_ge hown hg.symm)) (fun b t cs hb hne => (hgr.block b hb.lt (Ne.symm hne)).trans hb)
    unfold OwT
    rw [encT_app, List.length_append]
    exact h1
theorem own_ne {B : Nat} {w : World} {v : Value} {L : List Tk} (h : OwT (B + 1) w v L) : v.ownBlock ≠ some B := fun e => by
  have h' : w.ownsRow (B + 1) 31 5 v L.length (encT L) := h
  have := (h'.lt _ e).1
  omega
theorem split10 : ∀ R : List UInt8, (10 : UInt8) ∉ R ∨ ∃ T B, R = T ++ 10 :: B ∧ (10 : UInt8) ∉ T
  | [] => Or.inl (by simp)
  | y :: R => by
    by_cases h : y = 10
    · exact Or.inr ⟨[], R, by rw [h]; rfl, by simp⟩
    · rcases split10 R with q | ⟨T, B, rfl, q⟩
      · exact Or.inl (by simp [q, Ne.symm h])
      · exact Or.inr ⟨y :: T, B, rfl, by simp [q, Ne.symm h]⟩
theorem no10 {T : List UInt8} (h : (10 : UInt8) ∉ T) : ∀ y, y ∈ T → y.toNat ≠ 10 := fun y hy e => h (by rw [← (UInt8.toNat_inj.1 e : y = 10)]; exact hy)
/-- the answer of a scan -/
def ScV (r : ScR) (n B : Nat) (w : World) (e : Ending) : Prop := match r with
  | .ok L => ∃ v, e = .returned (.tuple #[v, .agg #[.int .i64 0, .int .i64 0, .int .i64 0]]) ∧ OwT B w v L ∧ L.length ≤ n
  | .bad er l c => e = .returned (.tuple #[.slice none 0 0, .agg #[.int .i64 (er : Nat), .int .i64 (l : Nat), .int .i64 (c : Nat)]]) ∧ er ≠ 0
def ScanR (S : List UInt8) (w : World) (e : Ending) (w' : World) : Prop := ScV (scL S 1 1 []) (S.length + 1) w.heap.size w' e ∧ Below w.heap.size w w'
theorem line_two (T : List UInt8) (l : Nat) (w : World) (hT : ∀ y, y ∈ T → y.toNat ≠ 10) (hl : T.length ≤ 70000) (hl2 : l ≤ 100000) :
    Calls Try.prog 16 #[.string (bL T), .int .i64 l] w fun e w' => Below w.heap.size w w' ∧
      ((∃ v L, e = .returned (.tuple #[v, .agg #[.int .i64 0, .int .i64 0, .int .i64 0]]) ∧ OwT w.heap.size w' v L ∧ LnW T l L ∧ L.length ≤ T.length) ∨
       (∃ er c : Nat, e = .returned (.tuple #[.slice none 0 0, .agg #[.int .i64 (er : Nat), .int .i64 (l : Nat), .int .i64 (c : Nat)]]) ∧ er ≠ 0 ∧ LnE T l er c)) := by
  refine (line_scan T l w hT hl hl2).mono ?_
  rintro e w' ⟨v, er, p, c, rfl, hb, h⟩
  refine ⟨hb, ?_⟩
  rcases h with ⟨rfl, rfl, rfl, L, h1, h2, h3⟩ | ⟨h1, _, rfl, h2, _, rfl⟩
  · exact Or.inl ⟨v, L, rfl, h1, h2, h3⟩
  · exact Or.inr ⟨er, c, rfl, h1, h2⟩
set_option maxRecDepth 100000 in
set_option maxHeartbeats 20000000 in
theorem scan_any (S : List UInt8) (w : World) (hl : S.length ≤ 65536) : Calls Try.prog 6 #[.string (bL S)] w (ScanR S w) := by
  obtain ⟨Q, hQ⟩ : ∃ Q : Ending → World → Prop, ScanR S w = Q := ⟨_, rfl⟩
  have HQ : Hid (∀ e w', ScV (scL S 1 1 []) (S.length + 1) w.heap.size w' e → Below w.heap.size w w' → Q e w') := Lib.hid (fun e w' h1 h2 => by rw [← hQ]; exact ⟨h1, h2⟩)
  rw [hQ]
  have B0 := Blk.new w #[.int .i64 0, .int .i64 0, .int .i64 0] 25
  have E0 := (Below.refl w.heap.size w).alloc (Nat.le_refl _) (.cells #[.int .i64 0, .int .i64 0, .int .i64 0] 25)
  obtain ⟨V0, hV⟩ : ∃ V, w.alloc (.cells #[.int .i64 0, .int .i64 0, .int .i64 0] 25) = V := ⟨_, rfl⟩
  rw [hV] at B0 E0
  have HV := Lib.hid hV
  have HB := Lib.hid B0; have EE := Lib.hid E0
  have hs := bL_size S
  obtain ⟨s, hss⟩ : ∃ s, bL S = s := ⟨_, rfl⟩
  rw [hss] at hs ⊢
  have hsi : ¬ (65536 : Int) < (s.size : Int) := by omega
  have HSS := Lib.hid hss
  clear hQ B0 E0 hV hss hs
  go_enter Try.func6, Try.ntmps6
  go_wp2_with fail
  rw [HV.out]
  go_loopg [0, 4, 5] (S.length + 1) (fun gh sv v iv wr => ∃ (R : List UInt8) (L : List Tk) (l : Nat), R.length + 1 = gh ∧ sv = .string (bL R) ∧ iv = .int .i64 l ∧ Hid (OwT (w.heap.size + 1) wr v L) ∧ Hid (scL S 1 1 [] = scL R l 1 L) ∧ R.length + l ≤ S.length + 1 ∧ L.length + R.length ≤ S.length ∧ Hid (Blk wr w.heap.size 25 #[.int .i64 0, .int .i64 0, .int .i64 0]) ∧ Hid (Below w.heap.size w wr))
  case atStart => exact ⟨S, [], 1, rfl, by rw [HSS.out], rfl, Lib.hid (owT_nil _ _), Lib.hid rfl, by omega, by simp, HB, EE⟩
  case round =>
    clear HB EE HSS hsi
    obtain ⟨R, L, l, rfl, rfl, rfl, HO, HI, hRl, hLR, HB, EE⟩ := hrel
    rename World => V
    rcases split10 R with hno | ⟨T, B, hRR, hno⟩
    · have KC := Lib.hid (fun W => cut_of (bL R) (bL R) (bL []) false 10 W (scut_no R 10 W hno))
      go_wp2_with fail
      refine (KC.out V).mono ?_
      rintro e w1 ⟨rfl, nd, rfl⟩
      have hbd : Below V.heap.size V (V.drewN nd) := below_drewN (Below.refl _ _) nd
      have HB1 := Lib.hid (HB.out.next hbd)
      have HO1 := Lib.hid (HO.out.next hbd)
      have E1 := Lib.hid (EE.out.trans (hbd.mono EE.out.size))
      clear hbd KC HB HO EE
      obtain ⟨V1, hV1⟩ : ∃ V1, V.drewN nd = V1 := ⟨_, rfl⟩
      rw [hV1] at HB1 HO1 E1 ⊢
      clear hV1
      have KS := Lib.hid (line_two R l V1 (no10 hno) (by omega) (by omega))
      go_wp2_with fail
      refine KS.out.mono ?_
      rintro e V2 ⟨hb, ⟨v, L2, rfl, ho2, hw, hl2⟩ | ⟨er, c, rfl, hne0, hle⟩⟩
      all_goals
        have HB2 := Lib.hid (HB1.out.next hb)
        have HO2 := Lib.hid (HO1.out.next hb)
        have E2 := Lib.hid (E1.out.trans (hb.mono E1.out.size))
        clear hb KS HB1 HO1 E1
      · obtain ⟨m, hm⟩ : ∃ m, R.length = m := ⟨_, rfl⟩
        have hts : (bL R).size = m := by rw [bL_size]; exact hm
        rw [hm] at hl2
        have HM := Lib.hid hm
        have Y1 : Hid (IntKind.i64.wrap ((m : Int) + 1) = (m : Int) + 1) := Lib.hid (IntWalk.i64_in _ (by omega))
        have Y2 : Hid (wrap64 ((m : Int) + 1) = (m : Int) + 1) := Lib.hid (IntWalk.wrap64_in _ (by omega))
        have Y3 : Hid (IntKind.i64.wrap ((l : Int) + 1) = (l : Int) + 1) := Lib.hid (IntWalk.i64_in _ (by omega))
        have Y4 : Hid (wrap64 ((l : Int) + 1) = (l : Int) + 1) := Lib.hid (IntWalk.wrap64_in _ (by omega))
        have hlt := HB2.out.lt
        have HOX := Lib.hid (HO2.out.next ((Below.refl V2.heap.size V2).alloc (Nat.le_refl _) (.cells #[.int .i64 0, .int .i64 0, .int .i64 0] 25)))
        have H2X := Lib.hid (ho2.next ((Below.refl V2.heap.size V2).alloc (Nat.le_refl _) (.cells #[.int .i64 0, .int .i64 0, .int .i64 0] 25)))
        have HPX := Lib.hid (HB2.out.alloc (.cells #[.int .i64 0, .int .i64 0, .int .i64 0] 25))
        have EX := Lib.hid (E2.out.alloc (by omega) (.cells #[.int .i64 0, .int .i64 0, .int .i64 0] 25))
        have HW : Hid (u4.ownBlock ≠ some w.heap.size) := Lib.hid (own_ne HO2.out)
        have HSX : Hid (w.heap.size + 1 ≤ (V2.alloc (.cells #[.int .i64 0, .int .i64 0, .int .i64 0] 25)).heap.size) := Lib.hid (by simp; omega)
        have HLN : Hid (L.length + L2.length ≤ 200000) := Lib.hid (by omega)
        obtain ⟨M, hMM⟩ : ∃ M, L ++ L2 = M := ⟨_, rfl⟩
        have hML : M.length = L.length + L2.length := by rw [← hMM, List.length_append]
        have HMM := Lib.hid hMM
        have HLM : Hid (M.length ≤ 100000) := Lib.hid (by omega)
        clear hMM
        have HML : Hid (L.length + L2.length ≤ S.length) := Lib.hid (by omega)
        have HLA : Hid (scL S 1 1 [] = .ok (M ++ if endL M then [] else [⟨3, [], 0, l, m + 1⟩])) := Lib.hid (by rw [HI.out, scan_last hw, HM.out, HMM.out])
        have HML2 := Lib.hid hML
        have hmS : M.length ≤ S.length := by omega
        clear hw hm ho2 hML
        by_cases hM0 : M.length = 0
        · have hq0 : ((M.length : Int) == 0) = true := by rw [beq_iff_eq]; omega
          have HEQ : Hid (scL S 1 1 [] = .ok (M ++ [⟨3, [], 0, l, m + 1⟩])) := Lib.hid (by
            rw [HLA.out, List.length_eq_zero_iff.1 hM0]; rfl)
          clear hM0
          have y1 := Y1.out; have y2 := Y2.out
          go_wp2_with (first
            | (at_builtin; refine append_toks rfl _ _ rfl (w.heap.size + 1) V1.heap.size u4 v L L2 rfl HOX.out rfl H2X.out HLN.out HSX.out ?_; intro v3 V3 o3 q3 keep3; rw [HMM.out] at o3; have p3 := keep3 _ _ _ HPX.out HW.out; obtain ⟨g3, cap3, hv3⟩ := ownM_slice o3; subst hv3; have HO3 := Lib.hid o3; have HP3 := Lib.hid p3; have E3 := Lib.hid (EX.out.trans (q3.mono (Nat.le_succ _))); have HS3 := Lib.hid (Nat.le_trans HSX.out q3.size); have HW3 := Lib.hid (own_ne o3); clear keep3 o3 p3 q3)
            | (at_builtin; refine append_tok rfl _ _ rfl (w.heap.size + 1) (.slice g3 M.length cap3) M rfl (HO3.out.next ((Below.refl V3.heap.size V3).alloc (Nat.le_refl _) (.cells #[.int .i64 3, .string (ByteArray.mk #[]), .int .i64 0, .int .i64 (l : Nat), .int .i64 ((m : Int) + 1)] 31))) V3.heap.size 1 ⟨3, [], 0, l, m + 1⟩ #[.int .i64 3, .string (ByteArray.mk #[]), .int .i64 0, .int .i64 (l : Nat), .int .i64 ((m : Int) + 1)] rfl rfl (Blk.new V3 _ _) (HLM.out) (Nat.le_trans HS3.out (by simp)) ?_; intro v4 V4 o4 q4 keep4 sz4; have p4 := keep4 _ _ _ (HP3.out.alloc _) HW3.out; have HO4 := Lib.hid o4; have HP4 := Lib.hid p4; have E4 := Lib.hid ((E3.out.alloc (Nat.le_trans (Nat.le_succ _) HS3.out) _).trans (q4.mono (Nat.le_succ _))); clear o4 p4 q4 keep4 sz4; have d0 := HP4.out.cell 0; have df0 := HP4.out.frozen 0; have d1 := HP4.out.cell 1; have df1 := HP4.out.frozen 1; have d2 := HP4.out.cell 2; have df2 := HP4.out.frozen 2))
          have B9 : Blk (((V4.setCell ⟨w.heap.size, 0, none⟩ (.int .i64 0)).setCell ⟨w.heap.size, 1, none⟩ (.int .i64 0)).setCell ⟨w.heap.size, 2, none⟩ (.int .i64 0)) w.heap.size 25 #[.int .i64 0, .int .i64 0, .int .i64 0] := (((HP4.out.set 0 (.int .i64 0)).set 1 (.int .i64 0)).set 2 (.int .i64 0))
          have O9 : OwT (w.heap.size + 1) (((V4.setCell ⟨w.heap.size, 0, none⟩ (.int .i64 0)).setCell ⟨w.heap.size, 1, none⟩ (.int .i64 0)).setCell ⟨w.heap.size, 2, none⟩ (.int .i64 0)) v4 (M ++ [⟨3, [], 0, l, m + 1⟩]) := (((HO4.out.far (p := ⟨w.heap.size, 0, none⟩) (Nat.lt_succ_self w.heap.size) (.int .i64 0)).far (p := ⟨w.heap.size, 1, none⟩) (Nat.lt_succ_self w.heap.size) (.int .i64 0)).far (p := ⟨w.heap.size, 2, none⟩) (Nat.lt_succ_self w.heap.size) (.int .i64 0))
          have E9 : Below w.heap.size w (((V4.setCell ⟨w.heap.size, 0, none⟩ (.int .i64 0)).setCell ⟨w.heap.size, 1, none⟩ (.int .i64 0)).setCell ⟨w.heap.size, 2, none⟩ (.int .i64 0)) := (((E4.out.setCell (p := ⟨w.heap.size, 0, none⟩) (Nat.le_refl _) (.int .i64 0)).setCell (p := ⟨w.heap.size, 1, none⟩) (Nat.le_refl _) (.int .i64 0)).setCell (p := ⟨w.heap.size, 2, none⟩) (Nat.le_refl _) (.int .i64 0))
          obtain ⟨V9, hV9⟩ : ∃ V9, (((V4.setCell ⟨w.heap.size, 0, none⟩ (.int .i64 0)).setCell ⟨w.heap.size, 1, none⟩ (.int .i64 0)).setCell ⟨w.heap.size, 2, none⟩ (.int .i64 0)) = V9 := ⟨_, rfl⟩
          rw [hV9] at B9 O9 E9 ⊢
          clear hV9
          have e0 := B9.cell 0; have e1 := B9.cell 1; have e2 := B9.cell 2
          refine bodyPost_ret (v := .tuple #[v4, .agg #[.int .i64 0, .int .i64 0, .int .i64 0]]) (by simp [results, Try.results6, go_sem, e0, e1, e2]) rfl ?_
          refine HQ.out _ V9 ?_ E9
          rw [HEQ.out]
          exact ⟨_, rfl, O9.lower (Nat.le_succ _), by first | (simp only [List.length_append, List.length_cons, List.length_nil]; omega) | omega⟩
        · have hq0 : ((M.length : Int) == 0) = false := by rw [beq_eq_false_iff_ne]; omega
          obtain ⟨j, hj⟩ : ∃ j, M.length = j + 1 := ⟨M.length - 1, by omega⟩
          obtain ⟨t, ht⟩ : ∃ t, M[j]? = some t := ⟨M[j]'(by omega), List.getElem?_eq_getElem _⟩
          have HTJ := Lib.hid ht
          have Y5 : Hid (IntKind.i64.wrap ((M.length : Int) - 1) = (j : Int)) := Lib.hid (by rw [IntWalk.i64_in _ (by omega)]; omega)
          have Y6 : Hid (wrap64 ((M.length : Int) - 1) = (j : Int)) := Lib.hid (by rw [IntWalk.wrap64_in _ (by omega)]; omega)
          have hjM : j < M.length := by omega
          have hjMi : (j : Int) < (M.length : Int) := by omega
          have hend : endL M = decide (t.k = 3) := by
            unfold endL
            rw [List.getLast?_eq_getElem?, hj, Nat.add_sub_cancel, ht]
            by_cases q : t.k = 3
            · simp [q]
            · simp [q]
          clear ht hj hM0
          by_cases hk3 : t.k = 3
          · have HEQ : Hid (scL S 1 1 [] = .ok M) := Lib.hid (by rw [HLA.out, hend, hk3]; simp)
            have hq3 : ((t.k : Int) != 3) = false := by rw [bne_eq_false_iff_eq]; omega
            obtain ⟨tk, htk⟩ : ∃ tk, t.k = tk := ⟨_, rfl⟩
            rw [htk] at hq3
            have HTK := Lib.hid htk
            clear hend hk3 htk
            have y1 := Y1.out; have y2 := Y2.out; have y5 := Y5.out; have y6 := Y6.out
            go_wp2_with (at_builtin; refine append_toks rfl _ _ rfl (w.heap.size + 1) V1.heap.size u4 v L L2 rfl HOX.out rfl H2X.out HLN.out HSX.out ?_; intro v3 V3 o3 q3 keep3; rw [HMM.out] at o3; have p3 := keep3 _ _ _ HPX.out HW.out; obtain ⟨g3, cap3, hv3⟩ := ownM_slice o3; subst hv3; have HO3 := Lib.hid o3; have HP3 := Lib.hid p3; have E3 := Lib.hid (EX.out.trans (q3.mono (Nat.le_succ _))); have HS3 := Lib.hid (Nat.le_trans HSX.out q3.size); have HW3 := Lib.hid (own_ne o3); clear keep3 o3 p3 q3; obtain ⟨gg, hgg⟩ : ∃ gg, g3 = some (⟨gg, 0, none⟩ : Addr) := (by obtain ⟨g9, c9, e9, _⟩ := ownM_head HO3.out (by omega); injection e9 with e9 _ _; exact ⟨g9, e9⟩); subst hgg; have ck := owT_cell (i := j) HO3.out HTJ.out 0 (by omega); rw [show (tkV t)[0]? = some (Value.int .i64 (t.k : Nat)) from rfl, Nat.add_zero] at ck; rw [HTK.out] at ck; have d0 := HP3.out.cell 0; have df0 := HP3.out.frozen 0; have d1 := HP3.out.cell 1; have df1 := HP3.out.frozen 1; have d2 := HP3.out.cell 2; have df2 := HP3.out.frozen 2)
            have B9 : Blk (((V3.setCell ⟨w.heap.size, 0, none⟩ (.int .i64 0)).setCell ⟨w.heap.size, 1, none⟩ (.int .i64 0)).setCell ⟨w.heap.size, 2, none⟩ (.int .i64 0)) w.heap.size 25 #[.int .i64 0, .int .i64 0, .int .i64 0] := (((HP3.out.set 0 (.int .i64 0)).set 1 (.int .i64 0)).set 2 (.int .i64 0))
            have O9 : OwT (w.heap.size + 1) (((V3.setCell ⟨w.heap.size, 0, none⟩ (.int .i64 0)).setCell ⟨w.heap.size, 1, none⟩ (.int .i64 0)).setCell ⟨w.heap.size, 2, none⟩ (.int .i64 0)) (.slice (some ⟨gg, 0, none⟩) M.length cap3) M := (((HO3.out.far (p := ⟨w.heap.size, 0, none⟩) (Nat.lt_succ_self w.heap.size) (.int .i64 0)).far (p := ⟨w.heap.size, 1, none⟩) (Nat.lt_succ_self w.heap.size) (.int .i64 0)).far (p := ⟨w.heap.size, 2, none⟩) (Nat.lt_succ_self w.heap.size) (.int .i64 0))
            have E9 : Below w.heap.size w (((V3.setCell ⟨w.heap.size, 0, none⟩ (.int .i64 0)).setCell ⟨w.heap.size, 1, none⟩ (.int .i64 0)).setCell ⟨w.heap.size, 2, none⟩ (.int .i64 0)) := (((E3.out.setCell (p := ⟨w.heap.size, 0, none⟩) (Nat.le_refl _) (.int .i64 0)).setCell (p := ⟨w.heap.size, 1, none⟩) (Nat.le_refl _) (.int .i64 0)).setCell (p := ⟨w.heap.size, 2, none⟩) (Nat.le_refl _) (.int .i64 0))
            obtain ⟨V9, hV9⟩ : ∃ V9, (((V3.setCell ⟨w.heap.size, 0, none⟩ (.int .i64 0)).setCell ⟨w.heap.size, 1, none⟩ (.int .i64 0)).setCell ⟨w.heap.size, 2, none⟩ (.int .i64 0)) = V9 := ⟨_, rfl⟩
            rw [hV9] at B9 O9 E9 ⊢
            clear hV9
            have e0 := B9.cell 0; have e1 := B9.cell 1; have e2 := B9.cell 2
            refine bodyPost_ret (v := .tuple #[(.slice (some ⟨gg, 0, none⟩) M.length cap3), .agg #[.int .i64 0, .int .i64 0, .int .i64 0]]) (by simp [results, Try.results6, go_sem, e0, e1, e2]) rfl ?_
            refine HQ.out _ V9 ?_ E9
            rw [HEQ.out]
            exact ⟨_, rfl, O9.lower (Nat.le_succ _), by first | (simp only [List.length_append, List.length_cons, List.length_nil]; omega) | omega⟩
          · have HEQ : Hid (scL S 1 1 [] = .ok (M ++ [⟨3, [], 0, l, m + 1⟩])) := Lib.hid (by rw [HLA.out, hend, decide_eq_false hk3]; rfl)
            have hq3 : ((t.k : Int) != 3) = true := by rw [bne_iff_ne]; omega
            obtain ⟨tk, htk⟩ : ∃ tk, t.k = tk := ⟨_, rfl⟩
            rw [htk] at hq3
            have HTK := Lib.hid htk
            clear hend hk3 htk
            have y1 := Y1.out; have y2 := Y2.out; have y5 := Y5.out; have y6 := Y6.out
            go_wp2_with (first
              | (at_builtin; refine append_toks rfl _ _ rfl (w.heap.size + 1) V1.heap.size u4 v L L2 rfl HOX.out rfl H2X.out HLN.out HSX.out ?_; intro v3 V3 o3 q3 keep3; rw [HMM.out] at o3; have p3 := keep3 _ _ _ HPX.out HW.out; obtain ⟨g3, cap3, hv3⟩ := ownM_slice o3; subst hv3; have HO3 := Lib.hid o3; have HP3 := Lib.hid p3; have E3 := Lib.hid (EX.out.trans (q3.mono (Nat.le_succ _))); have HS3 := Lib.hid (Nat.le_trans HSX.out q3.size); have HW3 := Lib.hid (own_ne o3); clear keep3 o3 p3 q3; obtain ⟨gg, hgg⟩ : ∃ gg, g3 = some (⟨gg, 0, none⟩ : Addr) := (by obtain ⟨g9, c9, e9, _⟩ := ownM_head HO3.out (by omega); injection e9 with e9 _ _; exact ⟨g9, e9⟩); subst hgg; have ck := owT_cell (i := j) HO3.out HTJ.out 0 (by omega); rw [show (tkV t)[0]? = some (Value.int .i64 (t.k : Nat)) from rfl, Nat.add_zero] at ck; rw [HTK.out] at ck)
              | (at_builtin; refine append_tok rfl _ _ rfl (w.heap.size + 1) (.slice (some ⟨gg, 0, none⟩) M.length cap3) M rfl (HO3.out.next ((Below.refl V3.heap.size V3).alloc (Nat.le_refl _) (.cells #[.int .i64 3, .string (ByteArray.mk #[]), .int .i64 0, .int .i64 (l : Nat), .int .i64 ((m : Int) + 1)] 31))) V3.heap.size 1 ⟨3, [], 0, l, m + 1⟩ #[.int .i64 3, .string (ByteArray.mk #[]), .int .i64 0, .int .i64 (l : Nat), .int .i64 ((m : Int) + 1)] rfl rfl (Blk.new V3 _ _) (HLM.out) (Nat.le_trans HS3.out (by simp)) ?_; intro v4 V4 o4 q4 keep4 sz4; have p4 := keep4 _ _ _ (HP3.out.alloc _) HW3.out; have HO4 := Lib.hid o4; have HP4 := Lib.hid p4; have E4 := Lib.hid ((E3.out.alloc (Nat.le_trans (Nat.le_succ _) HS3.out) _).trans (q4.mono (Nat.le_succ _))); clear o4 p4 q4 keep4 sz4; have d0 := HP4.out.cell 0; have df0 := HP4.out.frozen 0; have d1 := HP4.out.cell 1; have df1 := HP4.out.frozen 1; have d2 := HP4.out.cell 2; have df2 := HP4.out.frozen 2))
            have B9 : Blk (((V4.setCell ⟨w.heap.size, 0, none⟩ (.int .i64 0)).setCell ⟨w.heap.size, 1, none⟩ (.int .i64 0)).setCell ⟨w.heap.size, 2, none⟩ (.int .i64 0)) w.heap.size 25 #[.int .i64 0, .int .i64 0, .int .i64 0] := (((HP4.out.set 0 (.int .i64 0)).set 1 (.int .i64 0)).set 2 (.int .i64 0))
            have O9 : OwT (w.heap.size + 1) (((V4.setCell ⟨w.heap.size, 0, none⟩ (.int .i64 0)).setCell ⟨w.heap.size, 1, none⟩ (.int .i64 0)).setCell ⟨w.heap.size, 2, none⟩ (.int .i64 0)) v4 (M ++ [⟨3, [], 0, l, m + 1⟩]) := (((HO4.out.far (p := ⟨w.heap.size, 0, none⟩) (Nat.lt_succ_self w.heap.size) (.int .i64 0)).far (p := ⟨w.heap.size, 1, none⟩) (Nat.lt_succ_self w.heap.size) (.int .i64 0)).far (p := ⟨w.heap.size, 2, none⟩) (Nat.lt_succ_self w.heap.size) (.int .i64 0))
            have E9 : Below w.heap.size w (((V4.setCell ⟨w.heap.size, 0, none⟩ (.int .i64 0)).setCell ⟨w.heap.size, 1, none⟩ (.int .i64 0)).setCell ⟨w.heap.size, 2, none⟩ (.int .i64 0)) := (((E4.out.setCell (p := ⟨w.heap.size, 0, none⟩) (Nat.le_refl _) (.int .i64 0)).setCell (p := ⟨w.heap.size, 1, none⟩) (Nat.le_refl _) (.int .i64 0)).setCell (p := ⟨w.heap.size, 2, none⟩) (Nat.le_refl _) (.int .i64 0))
            obtain ⟨V9, hV9⟩ : ∃ V9, (((V4.setCell ⟨w.heap.size, 0, none⟩ (.int .i64 0)).setCell ⟨w.heap.size, 1, none⟩ (.int .i64 0)).setCell ⟨w.heap.size, 2, none⟩ (.int .i64 0)) = V9 := ⟨_, rfl⟩
            rw [hV9] at B9 O9 E9 ⊢
            clear hV9
            have e0 := B9.cell 0; have e1 := B9.cell 1; have e2 := B9.cell 2
            refine bodyPost_ret (v := .tuple #[v4, .agg #[.int .i64 0, .int .i64 0, .int .i64 0]]) (by simp [results, Try.results6, go_sem, e0, e1, e2]) rfl ?_
            refine HQ.out _ V9 ?_ E9
            rw [HEQ.out]
            exact ⟨_, rfl, O9.lower (Nat.le_succ _), by first | (simp only [List.length_append, List.length_cons, List.length_nil]; omega) | omega⟩
      · have HSB : Hid (∀ w', ScV (scL S 1 1 []) (S.length + 1) w.heap.size w' (.returned (.tuple #[.slice none 0 0, .agg #[.int .i64 (er : Nat), .int .i64 (l : Nat), .int .i64 (c : Nat)]]))) := Lib.hid (fun w' => by
          rw [HI.out, show scL R l 1 L = scL (R ++ []) l 1 L by rw [List.append_nil], hle L [] (Or.inl rfl)]
          exact ⟨rfl, hne0⟩)
        have hq : ((er : Int) == 0) = false := by rw [beq_eq_false_iff_ne]; omega
        have hlt := HB2.out.lt
        have hn1 : ¬ w.heap.size = V2.heap.size := by omega
        have hn2 : ¬ V2.heap.size = w.heap.size := by omega
        have q0 := HB2.out.cell 0; have qf0 := HB2.out.frozen 0
        have q1 := HB2.out.cell 1; have qf1 := HB2.out.frozen 1
        have q2 := HB2.out.cell 2; have qf2 := HB2.out.frozen 2
        clear hle hne0
        go_wp2_with fail
        go_region
        go_wp2_with fail
        have B9 : Blk ((((V2.setCell ⟨w.heap.size, 0, none⟩ (.int .i64 (er : Nat))).setCell ⟨w.heap.size, 1, none⟩ (.int .i64 (l : Nat))).setCell ⟨w.heap.size, 2, none⟩ (.int .i64 (c : Nat))).alloc (.cells #[.int .i64 (er : Nat), .int .i64 (l : Nat), .int .i64 (c : Nat)] 25)) w.heap.size 25 #[.int .i64 (er : Nat), .int .i64 (l : Nat), .int .i64 (c : Nat)] := ((((HB2.out.set 0 (.int .i64 (er : Nat))).set 1 (.int .i64 (l : Nat))).set 2 (.int .i64 (c : Nat)))).alloc _
        have E9 : Below w.heap.size w ((((V2.setCell ⟨w.heap.size, 0, none⟩ (.int .i64 (er : Nat))).setCell ⟨w.heap.size, 1, none⟩ (.int .i64 (l : Nat))).setCell ⟨w.heap.size, 2, none⟩ (.int .i64 (c : Nat))).alloc (.cells #[.int .i64 (er : Nat), .int .i64 (l : Nat), .int .i64 (c : Nat)] 25)) := ((((E2.out.setCell (p := ⟨w.heap.size, 0, none⟩) (Nat.le_refl _) (.int .i64 (er : Nat))).setCell (p := ⟨w.heap.size, 1, none⟩) (Nat.le_refl _) (.int .i64 (l : Nat))).setCell (p := ⟨w.heap.size, 2, none⟩) (Nat.le_refl _) (.int .i64 (c : Nat)))).alloc (by simp; omega) _
        obtain ⟨V9, hV9⟩ : ∃ V9, ((((V2.setCell ⟨w.heap.size, 0, none⟩ (.int .i64 (er : Nat))).setCell ⟨w.heap.size, 1, none⟩ (.int .i64 (l : Nat))).setCell ⟨w.heap.size, 2, none⟩ (.int .i64 (c : Nat))).alloc (.cells #[.int .i64 (er : Nat), .int .i64 (l : Nat), .int .i64 (c : Nat)] 25)) = V9 := ⟨_, rfl⟩
        rw [hV9] at B9 E9
        first | rw [hV9] | (rw [show World.drewN ((((V2.setCell ⟨w.heap.size, 0, none⟩ (.int .i64 (er : Nat))).setCell ⟨w.heap.size, 1, none⟩ (.int .i64 (l : Nat))).setCell ⟨w.heap.size, 2, none⟩ (.int .i64 (c : Nat))).alloc (.cells #[.int .i64 (er : Nat), .int .i64 (l : Nat), .int .i64 (c : Nat)] 25)) 0 = V9 from hV9])
        clear hV9
        have e0 := B9.cell 0; have e1 := B9.cell 1; have e2 := B9.cell 2
        refine bodyPost_ret (v := .tuple #[.slice none 0 0, .agg #[.int .i64 (er : Nat), .int .i64 (l : Nat), .int .i64 (c : Nat)]]) (by simp [results, Try.results6, go_sem, e0, e1, e2]) rfl ?_
        first | exact HQ.out _ _ (HSB.out _) E9.drew | exact HQ.out _ _ (HSB.out _) (below_drewN E9 1)
    · have hlen : R.length = T.length + 1 + B.length := by rw [hRR]; simp; omega
      have KC := Lib.hid (fun W => cut_of (bL R) (bL T) (bL B) true 10 W (by rw [hRR]; exact scut_yes T B 10 W hno (by rw [← hRR]; omega)))
      have HRR := Lib.hid hRR
      clear hRR
      go_wp2_with fail
      refine (KC.out V).mono ?_
      rintro e w1 ⟨rfl, nd, rfl⟩
      have hbd : Below V.heap.size V (V.drewN nd) := below_drewN (Below.refl _ _) nd
      have HB1 := Lib.hid (HB.out.next hbd)
      have HO1 := Lib.hid (HO.out.next hbd)
      have E1 := Lib.hid (EE.out.trans (hbd.mono EE.out.size))
      clear hbd KC HB HO EE
      obtain ⟨V1, hV1⟩ : ∃ V1, V.drewN nd = V1 := ⟨_, rfl⟩
      rw [hV1] at HB1 HO1 E1 ⊢
      clear hV1
      have KS := Lib.hid (line_two T l V1 (no10 hno) (by omega) (by omega))
      go_wp2_with fail
      refine KS.out.mono ?_
      rintro e V2 ⟨hb, ⟨v, L2, rfl, ho2, hw, hl2⟩ | ⟨er, c, rfl, hne0, hle⟩⟩
      all_goals
        have HB2 := Lib.hid (HB1.out.next hb)
        have HO2 := Lib.hid (HO1.out.next hb)
        have E2 := Lib.hid (E1.out.trans (hb.mono E1.out.size))
        clear hb KS HB1 HO1 E1
      · obtain ⟨m, hm⟩ : ∃ m, T.length = m := ⟨_, rfl⟩
        have hts : (bL T).size = m := by rw [bL_size]; exact hm
        rw [hm] at hl2
        have HM := Lib.hid hm
        have Y1 : Hid (IntKind.i64.wrap ((m : Int) + 1) = (m : Int) + 1) := Lib.hid (IntWalk.i64_in _ (by omega))
        have Y2 : Hid (wrap64 ((m : Int) + 1) = (m : Int) + 1) := Lib.hid (IntWalk.wrap64_in _ (by omega))
        have Y3 : Hid (IntKind.i64.wrap ((l : Int) + 1) = (l : Int) + 1) := Lib.hid (IntWalk.i64_in _ (by omega))
        have Y4 : Hid (wrap64 ((l : Int) + 1) = (l : Int) + 1) := Lib.hid (IntWalk.wrap64_in _ (by omega))
        have hlt := HB2.out.lt
        have HOX := Lib.hid (HO2.out.next ((Below.refl V2.heap.size V2).alloc (Nat.le_refl _) (.cells #[.int .i64 0, .int .i64 0, .int .i64 0] 25)))
        have H2X := Lib.hid (ho2.next ((Below.refl V2.heap.size V2).alloc (Nat.le_refl _) (.cells #[.int .i64 0, .int .i64 0, .int .i64 0] 25)))
        have HPX := Lib.hid (HB2.out.alloc (.cells #[.int .i64 0, .int .i64 0, .int .i64 0] 25))
        have EX := Lib.hid (E2.out.alloc (by omega) (.cells #[.int .i64 0, .int .i64 0, .int .i64 0] 25))
        have HW : Hid (u4.ownBlock ≠ some w.heap.size) := Lib.hid (own_ne HO2.out)
        have HSX : Hid (w.heap.size + 1 ≤ (V2.alloc (.cells #[.int .i64 0, .int .i64 0, .int .i64 0] 25)).heap.size) := Lib.hid (by simp; omega)
        have HLN : Hid (L.length + L2.length ≤ 200000) := Lib.hid (by omega)
        obtain ⟨M, hMM⟩ : ∃ M, L ++ L2 = M := ⟨_, rfl⟩
        have hML : M.length = L.length + L2.length := by rw [← hMM, List.length_append]
        have HMM := Lib.hid hMM
        have HLM : Hid (M.length ≤ 100000) := Lib.hid (by omega)
        clear hMM
        have HML : Hid (L.length + L2.length ≤ S.length) := Lib.hid (by omega)
        have HEQ : Hid (scL S 1 1 [] = scL B (l + 1) 1 (M ++ [⟨3, [], 0, l, m + 1⟩])) := Lib.hid (by rw [HI.out, HRR.out, scan_more hw, HM.out, HMM.out])
        have HML2 := Lib.hid hML
        clear hw hm ho2 hML
        have y1 := Y1.out; have y2 := Y2.out; have y3 := Y3.out; have y4 := Y4.out
        go_wp2_with (first
          | (at_builtin; refine append_toks rfl _ _ rfl (w.heap.size + 1) V1.heap.size u4 v L L2 rfl HOX.out rfl H2X.out HLN.out HSX.out ?_; intro v3 V3 o3 q3 keep3; rw [HMM.out] at o3; have p3 := keep3 _ _ _ HPX.out HW.out; obtain ⟨g3, cap3, hv3⟩ := ownM_slice o3; subst hv3; have HO3 := Lib.hid o3; have HP3 := Lib.hid p3; have E3 := Lib.hid (EX.out.trans (q3.mono (Nat.le_succ _))); have HS3 := Lib.hid (Nat.le_trans HSX.out q3.size); have HW3 := Lib.hid (own_ne o3); clear keep3 o3 p3 q3)
          | (at_builtin; refine append_tok rfl _ _ rfl (w.heap.size + 1) (.slice g3 M.length cap3) M rfl (HO3.out.next ((Below.refl V3.heap.size V3).alloc (Nat.le_refl _) (.cells #[.int .i64 3, .string (ByteArray.mk #[]), .int .i64 0, .int .i64 (l : Nat), .int .i64 ((m : Int) + 1)] 31))) V3.heap.size 1 ⟨3, [], 0, l, m + 1⟩ #[.int .i64 3, .string (ByteArray.mk #[]), .int .i64 0, .int .i64 (l : Nat), .int .i64 ((m : Int) + 1)] rfl rfl (Blk.new V3 _ _) (HLM.out) (Nat.le_trans HS3.out (by simp)) ?_; intro v4 V4 o4 q4 keep4 sz4; have p4 := keep4 _ _ _ (HP3.out.alloc _) HW3.out; have HO4 := Lib.hid o4; have HP4 := Lib.hid p4; have E4 := Lib.hid ((E3.out.alloc (Nat.le_trans (Nat.le_succ _) HS3.out) _).trans (q4.mono (Nat.le_succ _))); clear o4 p4 q4 keep4 sz4))
        clear y1 y2 y3 y4
        go_roundg (B.length + 1)
        case measure => omega
        case rel => exact ⟨B, M ++ [⟨3, [], 0, l, m + 1⟩], l + 1, rfl, rfl, by go_num, HO4, HEQ, by omega, by simp only [List.length_append, List.length_cons, List.length_nil]; have := HML2.out; have := HM.out; omega, HP4, E4⟩
      · have HSB : Hid (∀ w', ScV (scL S 1 1 []) (S.length + 1) w.heap.size w' (.returned (.tuple #[.slice none 0 0, .agg #[.int .i64 (er : Nat), .int .i64 (l : Nat), .int .i64 (c : Nat)]]))) := Lib.hid (fun w' => by
          rw [HI.out, HRR.out, hle L (10 :: B) (Or.inr ⟨B, rfl⟩)]
          exact ⟨rfl, hne0⟩)
        have hq : ((er : Int) == 0) = false := by rw [beq_eq_false_iff_ne]; omega
        have hlt := HB2.out.lt
        have hn1 : ¬ w.heap.size = V2.heap.size := by omega
        have hn2 : ¬ V2.heap.size = w.heap.size := by omega
        have q0 := HB2.out.cell 0; have qf0 := HB2.out.frozen 0
        have q1 := HB2.out.cell 1; have qf1 := HB2.out.frozen 1
        have q2 := HB2.out.cell 2; have qf2 := HB2.out.frozen 2
        clear hle hne0
        go_wp2_with fail
        go_region
        go_wp2_with fail
        have B9 : Blk ((((V2.setCell ⟨w.heap.size, 0, none⟩ (.int .i64 (er : Nat))).setCell ⟨w.heap.size, 1, none⟩ (.int .i64 (l : Nat))).setCell ⟨w.heap.size, 2, none⟩ (.int .i64 (c : Nat))).alloc (.cells #[.int .i64 (er : Nat), .int .i64 (l : Nat), .int .i64 (c : Nat)] 25)) w.heap.size 25 #[.int .i64 (er : Nat), .int .i64 (l : Nat), .int .i64 (c : Nat)] := ((((HB2.out.set 0 (.int .i64 (er : Nat))).set 1 (.int .i64 (l : Nat))).set 2 (.int .i64 (c : Nat)))).alloc _
        have E9 : Below w.heap.size w ((((V2.setCell ⟨w.heap.size, 0, none⟩ (.int .i64 (er : Nat))).setCell ⟨w.heap.size, 1, none⟩ (.int .i64 (l : Nat))).setCell ⟨w.heap.size, 2, none⟩ (.int .i64 (c : Nat))).alloc (.cells #[.int .i64 (er : Nat), .int .i64 (l : Nat), .int .i64 (c : Nat)] 25)) := ((((E2.out.setCell (p := ⟨w.heap.size, 0, none⟩) (Nat.le_refl _) (.int .i64 (er : Nat))).setCell (p := ⟨w.heap.size, 1, none⟩) (Nat.le_refl _) (.int .i64 (l : Nat))).setCell (p := ⟨w.heap.size, 2, none⟩) (Nat.le_refl _) (.int .i64 (c : Nat)))).alloc (by simp; omega) _
        obtain ⟨V9, hV9⟩ : ∃ V9, ((((V2.setCell ⟨w.heap.size, 0, none⟩ (.int .i64 (er : Nat))).setCell ⟨w.heap.size, 1, none⟩ (.int .i64 (l : Nat))).setCell ⟨w.heap.size, 2, none⟩ (.int .i64 (c : Nat))).alloc (.cells #[.int .i64 (er : Nat), .int .i64 (l : Nat), .int .i64 (c : Nat)] 25)) = V9 := ⟨_, rfl⟩
        rw [hV9] at B9 E9
        first | rw [hV9] | (rw [show World.drewN ((((V2.setCell ⟨w.heap.size, 0, none⟩ (.int .i64 (er : Nat))).setCell ⟨w.heap.size, 1, none⟩ (.int .i64 (l : Nat))).setCell ⟨w.heap.size, 2, none⟩ (.int .i64 (c : Nat))).alloc (.cells #[.int .i64 (er : Nat), .int .i64 (l : Nat), .int .i64 (c : Nat)] 25)) 0 = V9 from hV9])
        clear hV9
        have e0 := B9.cell 0; have e1 := B9.cell 1; have e2 := B9.cell 2
        refine bodyPost_ret (v := .tuple #[.slice none 0 0, .agg #[.int .i64 (er : Nat), .int .i64 (l : Nat), .int .i64 (c : Nat)]]) (by simp [results, Try.results6, go_sem, e0, e1, e2]) rfl ?_
        first | exact HQ.out _ _ (HSB.out _) E9.drew | exact HQ.out _ _ (HSB.out _) (below_drewN E9 1)
end Go.Proofs.Ythchgjjnlnadnaa
