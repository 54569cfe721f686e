/- Lexer: first. -/
import Derived.Test.YthchgjjnlnadnaaRows
import Derived.Test.YthchgjjnlnadnaaRowKit
import Derived.Test.YthchgjjnlnadnaaShelf
import Derived.Test.YthchgjjnlnadnaaBlocks
import Derived.Test.YthchgjjnlnadnaaBL
import Derived.Test.YthchgjjnlnadnaaLexM
import Derived.Test.YthchgjjnlnadnaaLexA
import Derived.Test.YthchgjjnlnadnaaLexB
import Derived.Test.YthchgjjnlnadnaaLexC
import Derived.WalkKit
import Derived.IntWalk
import Derived.Lib.Hide
import Derived.WalkSpells
import Derived.WalkLawsBesides
import Derived.Laws.IdiomStrings
import Derived.Laws.OwnMore
import Derived.OwnWalk
import Derived.Deep.QuietTactic
import Derived.BigQuiet
import Derived.BigRegion
import Derived.Deep.LoopGhost
namespace Go.Proofs.Ythchgjjnlnadnaa
open Go.RowKit Go.Sort
set_option linter.unusedSimpArgs false
set_option linter.unusedVariables false
/-- a token's cells -/
def tkV (t : Tk) : List Value := [.int .i64 (t.k : Nat), .string (bL t.t), .int .i64 (t.n : Nat), .int .i64 (t.l : Nat), .int .i64 (t.c : Nat)]
def tk0 : Tk := ⟨0, [], 0, 0, 0⟩
/-- what the first word or number of a text is, and why there is none -/
def FsT (x : UInt8) (R : List UInt8) (t : Tk) (er : Nat) : Prop :=
  (kndL x = 4 ∧ t = ⟨1, x :: rnL 4 R, 0, 0, 0⟩ ∧ er = 0) ∨ (kndL x = 5 ∧ nokL (x :: rnL 5 R) = true ∧ t = ⟨2, x :: rnL 5 R, nvL (x :: rnL 5 R) 0, 0, 0⟩ ∧ er = 0) ∨
  (kndL x = 5 ∧ nokL (x :: rnL 5 R) = false ∧ t = tk0 ∧ er = 191) ∨ (kndL x = 0 ∧ t = tk0 ∧ er = 190)
def FsR (x : UInt8) (R : List UInt8) (w : World) (e : Ending) (w' : World) : Prop := ∃ t er, e = .returned (.tuple #[.agg (tkV t).toArray, .int .i64 (er : Nat)]) ∧ FsT x R t er ∧ Below w.heap.size w w'
theorem rn_yes {k : Nat} {x : UInt8} (h : cntL k x = true) (R : List UInt8) : rnL k (x :: R) = x :: rnL k R := by unfold rnL; rw [List.takeWhile_cons, if_pos h]
theorem rn_no {k : Nat} {x : UInt8} (h : cntL k x = false) (R : List UInt8) : rnL k (x :: R) = [] := by unfold rnL; rw [List.takeWhile_cons, if_neg (by rw [h]; simp)]
theorem cnt_self4 (x : UInt8) : cntL 4 x = decide (kndL x = 4) := by
  unfold cntL
  by_cases h : kndL x = 4
  · simp [h]
  · simp [h]
theorem cnt_self5 (x : UInt8) : cntL 5 x = decide (kndL x = 5) := by
  unfold cntL
  by_cases h : kndL x = 5
  · simp [h]
  · simp [h]
theorem dg_of {x : UInt8} (h : cntL 5 x = true) : 48 ≤ x.toNat ∧ x.toNat ≤ 57 := by rw [cnt5] at h; exact of_decide_eq_true h
theorem rn_dg (T : List UInt8) : dgL (rnL 5 T) := fun k x hx => by
  have hk : k < (rnL 5 T).length := by
    rcases Nat.lt_or_ge k (rnL 5 T).length with q | q
    · exact q
    · rw [List.getElem?_eq_none q] at hx; cases hx
  obtain ⟨y, hy, hp⟩ := tw_at (p := cntL 5) T k hk
  have e : (rnL 5 T)[k]? = T[k]? := by
    have h2 : T.take (rnL 5 T).length = rnL 5 T := tw_take T
    rw [← h2, List.getElem?_take, if_pos hk]
  rw [e, hy] at hx
  cases hx
  exact dg_of hp
set_option maxRecDepth 100000 in
set_option maxHeartbeats 8000000 in
theorem first_any (x : UInt8) (R : List UInt8) (w : World) (hk : kndL x = 0 ∨ kndL x = 4 ∨ kndL x = 5) (hl : (x :: R).length ≤ 100000) :
    Calls Try.prog 22 #[.string (bL (x :: R))] w (FsR x R w) := by
  have K4 := Lib.hid (fun W => lead_let (x :: R) W hl)
  have K5 := Lib.hid (fun W => lead_dig (x :: R) W hl)
  obtain ⟨Q, hQ⟩ : ∃ Q : Ending → World → Prop, FsR x R w = Q := ⟨_, rfl⟩
  have HQ : Hid (∀ t er e w', e = .returned (.tuple #[.agg (tkV t).toArray, .int .i64 (er : Nat)]) → FsT x R t er → Below w.heap.size w w' → Q e w') := Lib.hid (fun t er e w' h1 h2 h3 => by rw [← hQ]; exact ⟨t, er, h1, h2, h3⟩)
  rw [hQ]
  have B0 := Blk.new w #[.int .i64 0, .string (ByteArray.mk #[]), .int .i64 0, .int .i64 0, .int .i64 0] 31
  have E0 := (Below.refl w.heap.size w).alloc (Nat.le_refl _) (.cells #[.int .i64 0, .string (ByteArray.mk #[]), .int .i64 0, .int .i64 0, .int .i64 0] 31)
  obtain ⟨V, hV⟩ : ∃ V, w.alloc (.cells #[.int .i64 0, .string (ByteArray.mk #[]), .int .i64 0, .int .i64 0, .int .i64 0] 31) = V := ⟨_, rfl⟩
  rw [hV] at B0 E0
  have HV := Lib.hid hV
  have HB := Lib.hid B0; have HE := Lib.hid E0
  clear hQ B0 E0 hV
  rcases hk with h0 | h4 | h5
  · have e4 : rnL 4 (x :: R) = [] := rn_no (by rw [cnt_self4, h0]; rfl) R
    have e5 : rnL 5 (x :: R) = [] := rn_no (by rw [cnt_self5, h0]; rfl) R
    rw [e4, show bL [] = ByteArray.mk #[] from rfl] at K4; rw [e5, show bL [] = ByteArray.mk #[] from rfl] at K5
    have HF : Hid (FsT x R tk0 190) := Lib.hid (Or.inr (Or.inr (Or.inr ⟨h0, rfl, rfl⟩)))
    clear e4 e5 h0 hl
    generalize bL (x :: R) = s at *
    go_enter Try.func22, Try.ntmps22
    go_wp2_with fail
    rw [HV.out]
    refine (K4.out V).mono ?_
    rintro e w1 ⟨rfl, rfl⟩
    go_wp2_with fail
    refine (K5.out V).mono ?_
    rintro e w1 ⟨rfl, rfl⟩
    have c0 := HB.out.cell 0; have f0 := HB.out.frozen 0
    have c1 := HB.out.cell 1; have f1 := HB.out.frozen 1
    have c2 := HB.out.cell 2; have f2 := HB.out.frozen 2
    have c3 := HB.out.cell 3; have f3 := HB.out.frozen 3
    have c4 := HB.out.cell 4; have f4 := HB.out.frozen 4
    go_wp2_with fail
    have B1 : Blk (((((V.setCell ⟨w.heap.size, 0, none⟩ (.int .i64 0)).setCell ⟨w.heap.size, 1, none⟩ (.string (ByteArray.mk #[]))).setCell ⟨w.heap.size, 2, none⟩ (.int .i64 0)).setCell ⟨w.heap.size, 3, none⟩ (.int .i64 0)).setCell ⟨w.heap.size, 4, none⟩ (.int .i64 0)) w.heap.size 31 #[.int .i64 0, .string (ByteArray.mk #[]), .int .i64 0, .int .i64 0, .int .i64 0] := (((((HB.out.set 0 (.int .i64 0)).set 1 (.string (ByteArray.mk #[]))).set 2 (.int .i64 0)).set 3 (.int .i64 0)).set 4 (.int .i64 0))
    have E1 : Below w.heap.size w (((((V.setCell ⟨w.heap.size, 0, none⟩ (.int .i64 0)).setCell ⟨w.heap.size, 1, none⟩ (.string (ByteArray.mk #[]))).setCell ⟨w.heap.size, 2, none⟩ (.int .i64 0)).setCell ⟨w.heap.size, 3, none⟩ (.int .i64 0)).setCell ⟨w.heap.size, 4, none⟩ (.int .i64 0)) := (((((HE.out.setCell (p := ⟨w.heap.size, 0, none⟩) (Nat.le_refl _) (.int .i64 0)).setCell (p := ⟨w.heap.size, 1, none⟩) (Nat.le_refl _) (.string (ByteArray.mk #[]))).setCell (p := ⟨w.heap.size, 2, none⟩) (Nat.le_refl _) (.int .i64 0)).setCell (p := ⟨w.heap.size, 3, none⟩) (Nat.le_refl _) (.int .i64 0)).setCell (p := ⟨w.heap.size, 4, none⟩) (Nat.le_refl _) (.int .i64 0))
    obtain ⟨V1, hV1⟩ : ∃ V1, (((((V.setCell ⟨w.heap.size, 0, none⟩ (.int .i64 0)).setCell ⟨w.heap.size, 1, none⟩ (.string (ByteArray.mk #[]))).setCell ⟨w.heap.size, 2, none⟩ (.int .i64 0)).setCell ⟨w.heap.size, 3, none⟩ (.int .i64 0)).setCell ⟨w.heap.size, 4, none⟩ (.int .i64 0)) = V1 := ⟨_, rfl⟩
    rw [hV1] at B1 E1 ⊢
    clear hV1
    have d0 := B1.cell 0; have d1 := B1.cell 1; have d2 := B1.cell 2; have d3 := B1.cell 3; have d4 := B1.cell 4
    refine bodyPost_ret (v := .tuple #[.agg #[.int .i64 0, .string (ByteArray.mk #[]), .int .i64 0, .int .i64 0, .int .i64 0], .int .i64 190]) (by simp [results, Try.results22, go_sem, d0, d1, d2, d3, d4]) rfl ?_
    refine HQ.out tk0 190 _ _ ?_ HF.out ?_
    · first | rfl | (rw [← HVV.out]; rfl) | skip
    · exact E1
  · have e4 : rnL 4 (x :: R) = x :: rnL 4 R := rn_yes (by rw [cnt_self4, h4]; rfl) R
    have HF : Hid (FsT x R ⟨1, x :: rnL 4 R, 0, 0, 0⟩ 0) := Lib.hid (Or.inl ⟨h4, rfl, rfl⟩)
    rw [e4] at K4
    obtain ⟨v, hv⟩ : ∃ v, bL (x :: rnL 4 R) = v := ⟨_, rfl⟩
    rw [hv] at K4
    have HVV := Lib.hid hv
    have vc : (v.toList == []) = false := by rw [← hv, bL_list]; rfl
    have vn : v.size ≠ 0 := by rw [← hv, bL_size]; simp
    have vb : ¬ v = ByteArray.empty := fun q => vn (by rw [q]; rfl)
    clear e4 h4 hl hv
    generalize bL (x :: R) = s at *
    go_enter Try.func22, Try.ntmps22
    go_wp2_with fail
    rw [HV.out]
    refine (K4.out V).mono ?_
    rintro e w1 ⟨rfl, rfl⟩
    have c0 := HB.out.cell 0; have f0 := HB.out.frozen 0
    have c1 := HB.out.cell 1; have f1 := HB.out.frozen 1
    have c2 := HB.out.cell 2; have f2 := HB.out.frozen 2
    have c3 := HB.out.cell 3; have f3 := HB.out.frozen 3
    have c4 := HB.out.cell 4; have f4 := HB.out.frozen 4
    go_wp2_with fail
    have B1 : Blk (((((V.setCell ⟨w.heap.size, 0, none⟩ (.int .i64 1)).setCell ⟨w.heap.size, 1, none⟩ (.string v)).setCell ⟨w.heap.size, 2, none⟩ (.int .i64 0)).setCell ⟨w.heap.size, 3, none⟩ (.int .i64 0)).setCell ⟨w.heap.size, 4, none⟩ (.int .i64 0)) w.heap.size 31 #[.int .i64 1, .string v, .int .i64 0, .int .i64 0, .int .i64 0] := (((((HB.out.set 0 (.int .i64 1)).set 1 (.string v)).set 2 (.int .i64 0)).set 3 (.int .i64 0)).set 4 (.int .i64 0))
    have E1 : Below w.heap.size w (((((V.setCell ⟨w.heap.size, 0, none⟩ (.int .i64 1)).setCell ⟨w.heap.size, 1, none⟩ (.string v)).setCell ⟨w.heap.size, 2, none⟩ (.int .i64 0)).setCell ⟨w.heap.size, 3, none⟩ (.int .i64 0)).setCell ⟨w.heap.size, 4, none⟩ (.int .i64 0)) := (((((HE.out.setCell (p := ⟨w.heap.size, 0, none⟩) (Nat.le_refl _) (.int .i64 1)).setCell (p := ⟨w.heap.size, 1, none⟩) (Nat.le_refl _) (.string v)).setCell (p := ⟨w.heap.size, 2, none⟩) (Nat.le_refl _) (.int .i64 0)).setCell (p := ⟨w.heap.size, 3, none⟩) (Nat.le_refl _) (.int .i64 0)).setCell (p := ⟨w.heap.size, 4, none⟩) (Nat.le_refl _) (.int .i64 0))
    obtain ⟨V1, hV1⟩ : ∃ V1, (((((V.setCell ⟨w.heap.size, 0, none⟩ (.int .i64 1)).setCell ⟨w.heap.size, 1, none⟩ (.string v)).setCell ⟨w.heap.size, 2, none⟩ (.int .i64 0)).setCell ⟨w.heap.size, 3, none⟩ (.int .i64 0)).setCell ⟨w.heap.size, 4, none⟩ (.int .i64 0)) = V1 := ⟨_, rfl⟩
    rw [hV1] at B1 E1 ⊢
    clear hV1
    have d0 := B1.cell 0; have d1 := B1.cell 1; have d2 := B1.cell 2; have d3 := B1.cell 3; have d4 := B1.cell 4
    refine bodyPost_ret (v := .tuple #[.agg #[.int .i64 1, .string v, .int .i64 0, .int .i64 0, .int .i64 0], .int .i64 0]) (by simp [results, Try.results22, go_sem, d0, d1, d2, d3, d4]) rfl ?_
    refine HQ.out ⟨1, x :: rnL 4 R, 0, 0, 0⟩ 0 _ _ ?_ HF.out ?_
    · first | rfl | (rw [← HVV.out]; rfl) | skip
    · exact E1
  · have e4 : rnL 4 (x :: R) = [] := rn_no (by rw [cnt_self4, h5]; rfl) R
    have e5 : rnL 5 (x :: R) = x :: rnL 5 R := rn_yes (by rw [cnt_self5, h5]; rfl) R
    have hdg : dgL (x :: rnL 5 R) := by rw [← e5]; exact rn_dg _
    have hll : (x :: rnL 5 R).length ≤ 100000 := by rw [← e5]; exact Nat.le_trans (rnL_len ..) hl
    rw [e4, show bL [] = ByteArray.mk #[] from rfl] at K4; rw [e5] at K5
    have KV := Lib.hid (fun W => value_any (x :: rnL 5 R) W hdg (by simp) hll)
    obtain ⟨v, hv⟩ : ∃ v, bL (x :: rnL 5 R) = v := ⟨_, rfl⟩
    rw [hv] at K5 KV
    have HVV := Lib.hid hv
    have vc : (v.toList == []) = false := by rw [← hv, bL_list]; rfl
    have vn : v.size ≠ 0 := by rw [← hv, bL_size]; simp
    have vb : ¬ v = ByteArray.empty := fun q => vn (by rw [q]; rfl)
    cases hno : nokL (x :: rnL 5 R) with
    | true =>
      have HF : Hid (FsT x R ⟨2, x :: rnL 5 R, nvL (x :: rnL 5 R) 0, 0, 0⟩ 0) := Lib.hid (Or.inr (Or.inl ⟨h5, hno, rfl, rfl⟩))
      rw [hno] at KV
      obtain ⟨n, hn⟩ : ∃ n, nvL (x :: rnL 5 R) 0 = n := ⟨_, rfl⟩
      rw [hn] at HF KV
      simp only [if_pos] at KV
      clear e4 e5 h5 hl hv hno hdg hll hn
      generalize bL (x :: R) = s at *
      go_enter Try.func22, Try.ntmps22
      go_wp2_with fail
      rw [HV.out]
      refine (K4.out V).mono ?_
      rintro e w1 ⟨rfl, rfl⟩
      go_wp2_with fail
      refine (K5.out V).mono ?_
      rintro e w1 ⟨rfl, rfl⟩
      go_wp2_with fail
      refine (KV.out V).mono ?_
      rintro e w1 ⟨rfl, rfl⟩
      have c0 := HB.out.cell 0; have f0 := HB.out.frozen 0
      have c1 := HB.out.cell 1; have f1 := HB.out.frozen 1
      have c2 := HB.out.cell 2; have f2 := HB.out.frozen 2
      have c3 := HB.out.cell 3; have f3 := HB.out.frozen 3
      have c4 := HB.out.cell 4; have f4 := HB.out.frozen 4
      go_wp2_with fail
      have B1 : Blk (((((V.setCell ⟨w.heap.size, 0, none⟩ (.int .i64 2)).setCell ⟨w.heap.size, 1, none⟩ (.string v)).setCell ⟨w.heap.size, 2, none⟩ (.int .i64 n)).setCell ⟨w.heap.size, 3, none⟩ (.int .i64 0)).setCell ⟨w.heap.size, 4, none⟩ (.int .i64 0)) w.heap.size 31 #[.int .i64 2, .string v, .int .i64 n, .int .i64 0, .int .i64 0] := (((((HB.out.set 0 (.int .i64 2)).set 1 (.string v)).set 2 (.int .i64 n)).set 3 (.int .i64 0)).set 4 (.int .i64 0))
      have E1 : Below w.heap.size w (((((V.setCell ⟨w.heap.size, 0, none⟩ (.int .i64 2)).setCell ⟨w.heap.size, 1, none⟩ (.string v)).setCell ⟨w.heap.size, 2, none⟩ (.int .i64 n)).setCell ⟨w.heap.size, 3, none⟩ (.int .i64 0)).setCell ⟨w.heap.size, 4, none⟩ (.int .i64 0)) := (((((HE.out.setCell (p := ⟨w.heap.size, 0, none⟩) (Nat.le_refl _) (.int .i64 2)).setCell (p := ⟨w.heap.size, 1, none⟩) (Nat.le_refl _) (.string v)).setCell (p := ⟨w.heap.size, 2, none⟩) (Nat.le_refl _) (.int .i64 n)).setCell (p := ⟨w.heap.size, 3, none⟩) (Nat.le_refl _) (.int .i64 0)).setCell (p := ⟨w.heap.size, 4, none⟩) (Nat.le_refl _) (.int .i64 0))
      obtain ⟨V1, hV1⟩ : ∃ V1, (((((V.setCell ⟨w.heap.size, 0, none⟩ (.int .i64 2)).setCell ⟨w.heap.size, 1, none⟩ (.string v)).setCell ⟨w.heap.size, 2, none⟩ (.int .i64 n)).setCell ⟨w.heap.size, 3, none⟩ (.int .i64 0)).setCell ⟨w.heap.size, 4, none⟩ (.int .i64 0)) = V1 := ⟨_, rfl⟩
      rw [hV1] at B1 E1 ⊢
      clear hV1
      have d0 := B1.cell 0; have d1 := B1.cell 1; have d2 := B1.cell 2; have d3 := B1.cell 3; have d4 := B1.cell 4
      refine bodyPost_ret (v := .tuple #[.agg #[.int .i64 2, .string v, .int .i64 n, .int .i64 0, .int .i64 0], .int .i64 0]) (by simp [results, Try.results22, go_sem, d0, d1, d2, d3, d4]) rfl ?_
      refine HQ.out ⟨2, x :: rnL 5 R, n, 0, 0⟩ 0 _ _ ?_ HF.out ?_
      · first | rfl | (rw [← HVV.out]; rfl) | skip
      · exact E1
    | false =>
      have HF : Hid (FsT x R tk0 191) := Lib.hid (Or.inr (Or.inr (Or.inl ⟨h5, hno, rfl, rfl⟩)))
      rw [hno] at KV
      rw [if_neg (by simp)] at KV
      clear e4 e5 h5 hl hv hno hdg hll
      generalize bL (x :: R) = s at *
      go_enter Try.func22, Try.ntmps22
      go_wp2_with fail
      rw [HV.out]
      refine (K4.out V).mono ?_
      rintro e w1 ⟨rfl, rfl⟩
      go_wp2_with fail
      refine (K5.out V).mono ?_
      rintro e w1 ⟨rfl, rfl⟩
      go_wp2_with fail
      refine (KV.out V).mono ?_
      rintro e w1 ⟨rfl, rfl⟩
      have c0 := HB.out.cell 0; have f0 := HB.out.frozen 0
      have c1 := HB.out.cell 1; have f1 := HB.out.frozen 1
      have c2 := HB.out.cell 2; have f2 := HB.out.frozen 2
      have c3 := HB.out.cell 3; have f3 := HB.out.frozen 3
      have c4 := HB.out.cell 4; have f4 := HB.out.frozen 4
      go_wp2_with fail
      have B1 : Blk (((((V.setCell ⟨w.heap.size, 0, none⟩ (.int .i64 0)).setCell ⟨w.heap.size, 1, none⟩ (.string (ByteArray.mk #[]))).setCell ⟨w.heap.size, 2, none⟩ (.int .i64 0)).setCell ⟨w.heap.size, 3, none⟩ (.int .i64 0)).setCell ⟨w.heap.size, 4, none⟩ (.int .i64 0)) w.heap.size 31 #[.int .i64 0, .string (ByteArray.mk #[]), .int .i64 0, .int .i64 0, .int .i64 0] := (((((HB.out.set 0 (.int .i64 0)).set 1 (.string (ByteArray.mk #[]))).set 2 (.int .i64 0)).set 3 (.int .i64 0)).set 4 (.int .i64 0))
      have E1 : Below w.heap.size w (((((V.setCell ⟨w.heap.size, 0, none⟩ (.int .i64 0)).setCell ⟨w.heap.size, 1, none⟩ (.string (ByteArray.mk #[]))).setCell ⟨w.heap.size, 2, none⟩ (.int .i64 0)).setCell ⟨w.heap.size, 3, none⟩ (.int .i64 0)).setCell ⟨w.heap.size, 4, none⟩ (.int .i64 0)) := (((((HE.out.setCell (p := ⟨w.heap.size, 0, none⟩) (Nat.le_refl _) (.int .i64 0)).setCell (p := ⟨w.heap.size, 1, none⟩) (Nat.le_refl _) (.string (ByteArray.mk #[]))).setCell (p := ⟨w.heap.size, 2, none⟩) (Nat.le_refl _) (.int .i64 0)).setCell (p := ⟨w.heap.size, 3, none⟩) (Nat.le_refl _) (.int .i64 0)).setCell (p := ⟨w.heap.size, 4, none⟩) (Nat.le_refl _) (.int .i64 0))
      obtain ⟨V1, hV1⟩ : ∃ V1, (((((V.setCell ⟨w.heap.size, 0, none⟩ (.int .i64 0)).setCell ⟨w.heap.size, 1, none⟩ (.string (ByteArray.mk #[]))).setCell ⟨w.heap.size, 2, none⟩ (.int .i64 0)).setCell ⟨w.heap.size, 3, none⟩ (.int .i64 0)).setCell ⟨w.heap.size, 4, none⟩ (.int .i64 0)) = V1 := ⟨_, rfl⟩
      rw [hV1] at B1 E1 ⊢
      clear hV1
      have d0 := B1.cell 0; have d1 := B1.cell 1; have d2 := B1.cell 2; have d3 := B1.cell 3; have d4 := B1.cell 4
      refine bodyPost_ret (v := .tuple #[.agg #[.int .i64 0, .string (ByteArray.mk #[]), .int .i64 0, .int .i64 0, .int .i64 0], .int .i64 191]) (by simp [results, Try.results22, go_sem, d0, d1, d2, d3, d4]) rfl ?_
      refine HQ.out tk0 191 _ _ ?_ HF.out ?_
      · first | rfl | (rw [← HVV.out]; rfl) | skip
      · exact E1
end Go.Proofs.Ythchgjjnlnadnaa
