/- The document's Make, of each kind. -/
import Derived.Test.YtiinlidilkdfbaaRows
import Derived.Test.YtiinlidilkdfbaaRowKit
import Derived.Test.YtiinlidilkdfbaaRowS
import Derived.Test.YtiinlidilkdfbaaRowZ
import Derived.Test.YtiinlidilkdfbaaSlicesEq
import Derived.Test.YtiinlidilkdfbaaSlicesEqM
import Derived.Test.YtiinlidilkdfbaaRowL
import Derived.Test.YtiinlidilkdfbaaRowM
import Derived.Test.YtiinlidilkdfbaaMakeI
import Derived.Test.YtiinlidilkdfbaaBlocks
import Derived.Test.YtiinlidilkdfbaaSpanMath
import Derived.Test.YtiinlidilkdfbaaSpanA
import Derived.Test.YtiinlidilkdfbaaSpanB
import Derived.WalkKit
import Derived.IntWalk
import Derived.Lib.Hide
import Derived.WalkSpells
import Derived.WalkLawsBesides
import Derived.Laws.CopyOwn
import Derived.Laws.MakeOwn
import Derived.Laws.OwnMore
import Derived.Laws.AppendOwnNone
import Derived.OwnWalk
import Derived.BigRegion
import Derived.Deep.LoopGhost
import Derived.Deep.RegionHeld3
import Derived.Deep.QuietTactic
import Derived.BigQuiet
import Derived.Maps.AppendAt
import Derived.Deep.AppendLies
namespace Go.Proofs.Ytiinlidilkdfbaa
open Go.RowKit
set_option linter.unusedSimpArgs false
set_option linter.unusedVariables false
theorem cell_on {w w' : World} {a : Addr} {v : Value} (hb : Below w.heap.size w w') (h : w.cell? a = some v) : w'.cell? a = some v := (hb.cell (lt_of_cell h)).trans h
/-- append of one span, laid in a block of its own, to a row that the call made: in a drawn region -/
theorem step_span {w : World} {ops : Array Oper} {o : Oper} {a : Act} {K : Act → World → Prop} {Q : Exit → Act → World → Prop} {E : Prop} (hgd : o.guard = none) (s x : Operand)
    (ho : o.op = .call { callee := .builtin .append, args := #[s, x], argTypes := #[22, 22] }) (base : Nat) (v : Value) (n : Nat) (xs : List Value) (hs : a.eval s = v) (hown : w.ownsRow base 26 2 v n xs)
    (g c : Nat) (p q : Int) (hx : a.eval x = .slice (some ⟨g, 0, none⟩) 1 c) (hg : Blk w g 26 #[.int .i64 p, .int .i64 q]) (hsm : n ≤ 100000) (hbase : base ≤ w.heap.size)
    (h : ∀ v' w', w'.ownsRow base 26 2 v' (n + 1) (xs ++ [.int .i64 p, .int .i64 q]) → Below base w w' → K (a.put o.dst v') w') : if Region.wanted o (yielded ops a.tmps) = true then Oper.wp Try.prog o a w K Q else E := by
  obtain ⟨i0, hi, hz0, hz1, hz2⟩ := info_parts spInfo
  refine step_append_lies w hgd s x _ ho base 26 i0 (.agg #[.int .i64 0, .int .i64 0]) 2 16 Try.underlying22 hi hz0 hz1 hz2 rfl (by decide) v n xs hs hown ⟨g, 0, none⟩ 1 c [.int .i64 p, .int .i64 q] hx rfl (newsM hg) (by intro u hu; simp at hu; rcases hu with rfl | rfl <;> rfl) (by decide) (by unfold maxLen; omega) (by omega) hbase w.heap.size rfl ?_
  intro gg cap w' h1 h2 _ _
  exact h _ w' h1 ((Below.refl base w).grown h2 hbase (fun g hg => by first | exact ownR_ge hown hg | exact ownR_ge hown hg.symm))
theorem rowS_push (L : List (Int × Int)) (p q : Int) : rowM 2 (zS L) L.length ++ [.int .i64 p, .int .i64 q] = rowM 2 (zS (L ++ [(p, q)])) (L ++ [(p, q)]).length := by
  have e : rowM 2 (zS [(p, q)]) ([(p, q)] : List (Int × Int)).length = [.int .i64 p, .int .i64 q] := by
    show rowM 2 _ (0 + 1) = _
    rw [rowM_succ, rowM_zero]; rfl
  rw [← rowS_app L [(p, q)], e]
/-- the last span ends elsewhere -/
theorem rowS_last (L : List (Int × Int)) (p q y : Int) : rowM 2 (fun a b => if a = L.length ∧ b = 1 then y else zS (L ++ [(p, q)]) a b) (L.length + 1) = rowM 2 (zS (L ++ [(p, y)])) (L.length + 1) := by
  refine rowM_congr fun i j hi hj => ?_
  show (if i = L.length ∧ j = 1 then y else zS (L ++ [(p, q)]) i j) = zS (L ++ [(p, y)]) i j
  by_cases e : i = L.length
  · subst e
    rcases j with _ | _ | j
    · rw [if_neg (by omega), zS_app, zS_app, if_neg (by omega), if_neg (by omega), Nat.sub_self]; rfl
    · rw [if_pos (And.intro rfl rfl), zS_app, if_neg (by omega), Nat.sub_self]; rfl
    · omega
  · rw [if_neg (fun h => e h.1), zS_app, zS_app, if_pos (by omega), if_pos (by omega)]
theorem zS_last (L : List (Int × Int)) (p q : Int) : zS (L ++ [(p, q)]) L.length 1 = q := by
  rw [zS_app, if_neg (by omega), Nat.sub_self]; rfl
theorem mk_len (f : Nat → Bool) (b : Nat → Int) : ∀ i, (mkA f b i).length ≤ i
  | 0 => by simp [mkA]
  | i + 1 => by
    have := mk_len f b i
    unfold mkA
    split
    · split
      · split
        · simp; omega
        · simp; omega
      · simp; omega
    · omega
theorem mk_mem (f : Nat → Bool) (b : Nat → Int) : ∀ i p, p ∈ mkA f b i → (∃ j, j ≤ i ∧ p.1 = b j) ∧ ∃ j, j ≤ i ∧ p.2 = b j
  | 0, p, h => by simp [mkA] at h
  | i + 1, p, h => by
    have ih := mk_mem f b i
    have up : ∀ p, p ∈ mkA f b i → (∃ j, j ≤ i + 1 ∧ p.1 = b j) ∧ ∃ j, j ≤ i + 1 ∧ p.2 = b j := fun p hp => by
      obtain ⟨⟨j, h1, h2⟩, ⟨k, h3, h4⟩⟩ := ih p hp
      exact ⟨⟨j, by omega, h2⟩, ⟨k, by omega, h4⟩⟩
    unfold mkA at h
    split at h
    · split at h
      · rename_i q hq
        split at h
        · rcases List.mem_append.1 h with h | h
          · exact up p ((List.dropLast_sublist _).subset h)
          · obtain rfl : p = (q.1, b (i + 1)) := by simpa using h
            exact ⟨(up q (List.mem_of_getLast? hq)).1, i + 1, Nat.le_refl _, rfl⟩
        · rcases List.mem_append.1 h with h | h
          · exact up p h
          · obtain rfl : p = (b i, b (i + 1)) := by simpa using h
            exact ⟨⟨i, by omega, rfl⟩, i + 1, Nat.le_refl _, rfl⟩
      · rcases List.mem_append.1 h with h | h
        · exact up p h
        · obtain rfl : p = (b i, b (i + 1)) := by simpa using h
          exact ⟨⟨i, by omega, rfl⟩, i + 1, Nat.le_refl _, rfl⟩
    · exact up p h
def MakR (a b : List (Int × Int)) (kind : Int) (w : World) (e : Ending) (w' : World) : Prop := ∃ v', e = .returned v' ∧ IsS w' v' (makeL a b kind) ∧ Below w.heap.size w w' ∧ (makeL a b kind).length ≤ 2 * (a.length + b.length)
set_option maxRecDepth 100000 in
set_option maxHeartbeats 8000000 in
theorem make0_any (va vb : Value) (a b : List (Int × Int)) (w : World) (ha : IsS w va a) (hb : IsS w vb b) (hla : a.length ≤ 1000) (hlb : b.length ≤ 1000) :
    Calls Try.prog 8 #[va, vb, .int .i64 0] w (MakR a b 0 w) := by
  have HA := Lib.hid ha; have HB := Lib.hid hb
  have KB := Lib.hid (bounds_any va vb a b w ha hb hla hlb)
  have hwa := zS_in ha; have hwb := zS_in hb
  have HBW : Hid (∀ x, x ∈ bdL (a ++ b) → -9223372036854775808 ≤ x ∧ x ≤ 9223372036854775807) := Lib.hid fun x hx => by
    obtain ⟨p, hp, e⟩ := (bd_mem (a ++ b) x).1 hx
    have h := (List.mem_append.1 hp).elim (hwa p) (hwb p)
    rcases e with rfl | rfl
    · exact h.1
    · exact h.2
  have HLB : Hid ((bdL (a ++ b)).length ≤ 2 * (a.length + b.length)) := Lib.hid (by have := bds_len (a ++ b) (2 * (a ++ b).length); unfold bdL; rw [List.length_append] at this ⊢; omega)
  obtain ⟨R, hR⟩ : ∃ R : Ending → World → Prop, MakR a b 0 w = R := ⟨_, rfl⟩
  have HR := Lib.hid hR
  rw [hR]
  clear hR ha hb hwa hwb
  go_enter Try.func8, Try.ntmps8
  go_wp2_with fail
  refine KB.out.mono ?_
  rintro e W1 ⟨vB, rfl, hIB, hbB⟩
  obtain ⟨AB, cB, rfl, rB, n1, n2, n3⟩ := hIB
  have HE1 := Lib.hid hbB
  obtain ⟨B, hBB⟩ : ∃ B, bdL (a ++ b) = B := ⟨_, rfl⟩
  have HBB := Lib.hid hBB
  rw [hBB] at rB n1 HBW HLB ⊢
  have HRB := Lib.hid rB
  obtain ⟨NB, hNB⟩ : ∃ n, B.length = n := ⟨_, rfl⟩
  have HNB := Lib.hid hNB
  rw [hNB] at n1 HLB ⊢
  obtain ⟨f, hf⟩ : ∃ f : Nat → Bool, (fun i => kindF 0 a b (zat B i)) = f := ⟨_, rfl⟩
  have HFF := Lib.hid hf
  have hNB2 : NB ≤ 4000 := by have := HLB.out; omega
  clear hbB rB hBB hNB n3 hf KB
  go_wp2_with fail
  go_loopg [8, 9] NB (fun g ov i wr => ∃ k : Nat, k ≤ NB - 1 ∧ g = NB - k ∧ i = .int .i64 k ∧ Hid (wr.ownsRow W1.heap.size 26 2 ov (mkA f (zat B) k).length (rowM 2 (zS (mkA f (zat B) k)) (mkA f (zat B) k).length) ∧ Below W1.heap.size W1 wr))
  case atStart => exact ⟨0, by omega, by omega, rfl, Lib.hid ⟨⟨by simp [mkA, rowM_len], Or.inl ⟨rfl, rfl⟩⟩, Below.refl _ _⟩⟩
  case round =>
    obtain ⟨k, hk, rfl, rfl, HI⟩ := hrel
    by_cases h : k + 1 < NB
    · have hk1 : (k : Int) + 1 < (NB : Int) := by omega
      have hkw : IntKind.i64.wrap ((k : Int) + 1) = (k : Int) + 1 := IntWalk.i64_in _ (by omega)
      have hkt : ((k : Int) + 1).toNat = k + 1 := by omega
      have hkn : (0 : Int) ≤ (k : Int) + 1 := by omega
      have hkl : k < NB := by omega
      obtain ⟨bb, ob, rfl, _, hcell⟩ := rdI_row HRB.out (by rw [HNB.out]; omega)
      have c0 := hcell k (by rw [HNB.out]; omega)
      have c1 := hcell (k + 1) (by rw [HNB.out]; omega)
      obtain ⟨x, hx⟩ : ∃ x, zat B k = x := ⟨_, rfl⟩
      obtain ⟨y, hy⟩ : ∃ y, zat B (k + 1) = y := ⟨_, rfl⟩
      rw [hx] at c0
      rw [hy] at c1
      have HXX := Lib.hid hx; have HYY := Lib.hid hy
      have HC0 := Lib.hid c0; have HC1 := Lib.hid c1
      have d0 := cell_on HI.out.2 c0
      have d1 := cell_on HI.out.2 c1
      have hML := mk_len f (zat B) k
      obtain ⟨M, hMM⟩ : ∃ M, mkA f (zat B) k = M := ⟨_, rfl⟩
      have HMk := Lib.hid hMM
      rw [hMM] at HI hML
      have HML : Hid (M.length ≤ 4000) := Lib.hid (by omega)
      have HAW := Lib.hid (HA.out.kept (HE1.out.trans (HI.out.2.mono HE1.out.size)))
      have HBW2 := Lib.hid (HB.out.kept (HE1.out.trans (HI.out.2.mono HE1.out.size)))
      have hFk : f k = kindF 0 a b x := by rw [← HFF.out, ← HXX.out]
      clear hcell hx hy c0 c1 hMM hML
      go_wp2_with fail
      refine (dhas_any va a x wr HAW.out (by omega)).mono ?_
      rintro e wr' ⟨rfl, rfl⟩
      obtain ⟨fa, hfa⟩ : ∃ v, hasL a x = v := ⟨_, rfl⟩
      rw [hfa]
      have hFk : f k = fa := by rw [hFk]; unfold kindF; rw [hfa]; simp
      have HF := Lib.hid hFk
      clear hFk hfa
      cases fa
      · skip
        go_wp2_with fail
        go_roundg (NB - (k + 1))
        case rel => exact ⟨k + 1, by omega, rfl, by go_num, Lib.hid (by rw [mk_no HF.out, HMk.out]; exact HI.out)⟩
        case measure => omega
      · skip
        rcases List.eq_nil_or_concat M with hM | ⟨M', pq, hM⟩
        · subst hM
          simp only [List.length_nil, rowM_zero] at HI
          obtain ⟨g0, cap0, rfl⟩ := ownM_slice HI.out.1
          have HS := Lib.hid (And.intro (cell_on (HI.out.2).drew HC0.out) (cell_on (HI.out.2).drew HC1.out))
          go_wp2_with fail
          refine wp_region_held_drew (S := (fun X : World => X.cell? ⟨bb, ob + k, none⟩ = some (.int .i64 x) ∧ X.cell? ⟨bb, ob + (k + 1), none⟩ = some (.int .i64 y))) (by kernel_rfl) HS.out (fun hHeld => ?_)
          clear hHeld
          refine wpAnyH_take (i := 0) (v := ?_) rfl (by kernel_rfl) (by kernel_rfl) (by kernel_rfl) (fun _ _ _ h => h) (Or.inl ⟨by rfl, ?_⟩) HS.out ?_
          rotate_left
          · (intro wS hSw; (try dsimp only at hSw); go_simp; try with_reducible rfl)
          simp only [Act.put, List.getElem_toArray, List.getElem_cons_zero, List.getElem_cons_succ, List.setIfInBounds_toArray, List.set_cons_zero, List.set_cons_succ]
          refine wpAnyH_take (i := 1) (v := ?_) rfl (by kernel_rfl) (by kernel_rfl) (by kernel_rfl) (fun _ _ _ h => h) (Or.inl ⟨by rfl, ?_⟩) HS.out ?_
          rotate_left
          · (intro wS hSw; (try dsimp only at hSw); go_simp; try with_reducible rfl)
          simp only [Act.put, List.getElem_toArray, List.getElem_cons_zero, List.getElem_cons_succ, List.setIfInBounds_toArray, List.set_cons_zero, List.set_cons_succ]
          refine wpAnyH_take (i := 2) (v := ?_) rfl (by kernel_rfl) (by kernel_rfl) (by kernel_rfl) (fun _ _ _ h => h) (Or.inl ⟨by rfl, ?_⟩) HS.out ?_
          rotate_left
          · (intro wS hSw; (try dsimp only at hSw); go_simp; try with_reducible rfl)
          simp only [Act.put, List.getElem_toArray, List.getElem_cons_zero, List.getElem_cons_succ, List.setIfInBounds_toArray, List.set_cons_zero, List.set_cons_succ]
          refine wpAnyH_take (i := 3) (v := undef) rfl (by kernel_rfl) (by kernel_rfl) (by kernel_rfl) (fun _ _ _ h => h) (Or.inr ⟨by kernel_rfl, rfl⟩) HS.out ?_
          simp only [Act.put, List.getElem_toArray, List.getElem_cons_zero, List.getElem_cons_succ, List.setIfInBounds_toArray, List.set_cons_zero, List.set_cons_succ]
          refine wpAnyH_take (i := 4) (v := undef) rfl (by kernel_rfl) (by kernel_rfl) (by kernel_rfl) (fun _ _ _ h => h) (Or.inr ⟨by kernel_rfl, rfl⟩) HS.out ?_
          simp only [Act.put, List.getElem_toArray, List.getElem_cons_zero, List.getElem_cons_succ, List.setIfInBounds_toArray, List.set_cons_zero, List.set_cons_succ]
          refine wpAnyH_take (i := 5) (v := undef) rfl (by kernel_rfl) (by kernel_rfl) (by kernel_rfl) (fun _ _ _ h => h) (Or.inr ⟨by kernel_rfl, rfl⟩) HS.out ?_
          simp only [Act.put, List.getElem_toArray, List.getElem_cons_zero, List.getElem_cons_succ, List.setIfInBounds_toArray, List.set_cons_zero, List.set_cons_succ]
          refine wpAnyH_take (i := 6) (v := undef) rfl (by kernel_rfl) (by kernel_rfl) (by kernel_rfl) (fun _ _ _ h => h) (Or.inr ⟨by kernel_rfl, rfl⟩) HS.out ?_
          simp only [Act.put, List.getElem_toArray, List.getElem_cons_zero, List.getElem_cons_succ, List.setIfInBounds_toArray, List.set_cons_zero, List.set_cons_succ]
          refine wpAnyH_take (i := 7) (v := undef) rfl (by kernel_rfl) (by kernel_rfl) (by kernel_rfl) (fun _ _ _ h => h) (Or.inr ⟨by kernel_rfl, rfl⟩) HS.out ?_
          simp only [Act.put, List.getElem_toArray, List.getElem_cons_zero, List.getElem_cons_succ, List.setIfInBounds_toArray, List.set_cons_zero, List.set_cons_succ]
          refine wpAnyH_take (i := 8) (v := undef) rfl (by kernel_rfl) (by kernel_rfl) (by kernel_rfl) (fun _ _ _ h => h) (Or.inr ⟨by kernel_rfl, rfl⟩) HS.out ?_
          simp only [Act.put, List.getElem_toArray, List.getElem_cons_zero, List.getElem_cons_succ, List.setIfInBounds_toArray, List.set_cons_zero, List.set_cons_succ]
          refine wpAnyH_take (i := 9) (v := undef) rfl (by kernel_rfl) (by kernel_rfl) (by kernel_rfl) (fun _ _ _ h => h) (Or.inr ⟨by kernel_rfl, rfl⟩) HS.out ?_
          simp only [Act.put, List.getElem_toArray, List.getElem_cons_zero, List.getElem_cons_succ, List.setIfInBounds_toArray, List.set_cons_zero, List.set_cons_succ]
          refine wpAnyH_take (i := 10) (v := undef) rfl (by kernel_rfl) (by kernel_rfl) (by kernel_rfl) (fun _ _ _ h => h) (Or.inr ⟨by kernel_rfl, rfl⟩) HS.out ?_
          simp only [Act.put, List.getElem_toArray, List.getElem_cons_zero, List.getElem_cons_succ, List.setIfInBounds_toArray, List.set_cons_zero, List.set_cons_succ]
          refine wpAnyH_take (i := 11) (v := undef) rfl (by kernel_rfl) (by kernel_rfl) (by kernel_rfl) (fun _ _ _ h => h) (Or.inr ⟨by kernel_rfl, rfl⟩) HS.out ?_
          simp only [Act.put, List.getElem_toArray, List.getElem_cons_zero, List.getElem_cons_succ, List.setIfInBounds_toArray, List.set_cons_zero, List.set_cons_succ]
          refine wpAnyH_take (i := 12) (v := undef) rfl (by kernel_rfl) (by kernel_rfl) (by kernel_rfl) (fun _ _ _ h => h) (Or.inr ⟨by kernel_rfl, rfl⟩) HS.out ?_
          simp only [Act.put, List.getElem_toArray, List.getElem_cons_zero, List.getElem_cons_succ, List.setIfInBounds_toArray, List.set_cons_zero, List.set_cons_succ]
          refine wpAnyH_take (i := 13) (v := undef) rfl (by kernel_rfl) (by kernel_rfl) (by kernel_rfl) (fun _ _ _ h => h) (Or.inr ⟨by kernel_rfl, rfl⟩) HS.out ?_
          simp only [Act.put, List.getElem_toArray, List.getElem_cons_zero, List.getElem_cons_succ, List.setIfInBounds_toArray, List.set_cons_zero, List.set_cons_succ]
          refine wpAnyH_take (i := 14) (v := ?_) rfl (by kernel_rfl) (by kernel_rfl) (by kernel_rfl) (fun _ _ _ h => h) (Or.inl ⟨by rfl, ?_⟩) HS.out ?_
          rotate_left
          · (intro wS hSw; (try dsimp only at hSw); go_simp; try with_reducible rfl)
          simp only [Act.put, List.getElem_toArray, List.getElem_cons_zero, List.getElem_cons_succ, List.setIfInBounds_toArray, List.set_cons_zero, List.set_cons_succ]
          refine wpAnyH_done (by kernel_rfl) ?_ _
          go_wp2_with fail
          obtain ⟨ov, hov⟩ : ∃ v, Value.slice g0 0 cap0 = v := ⟨_, rfl⟩
          rw [hov] at HI
          try rw [hov]
          clear hov
          obtain ⟨WW, hWW⟩ : ∃ X, wr.drew = X := ⟨_, rfl⟩
          have HWW : Hid (Below W1.heap.size W1 WW) := Lib.hid (by rw [← hWW]; exact HI.out.2.drew)
          have HOW : Hid (WW.ownsRow W1.heap.size 26 2 ov 0 []) := Lib.hid (by rw [← hWW]; exact ownM_below HI.out.1 (Below.refl _ _).drew)
          try rw [hWW]
          clear hWW
          have HSD : Hid (WW.drew.cell? ⟨bb, ob + k, none⟩ = some (.int .i64 x) ∧ WW.drew.cell? ⟨bb, ob + (k + 1), none⟩ = some (.int .i64 y)) := Lib.hid ⟨cell_on HWW.out.drew HC0.out, cell_on HWW.out.drew HC1.out⟩
          have HSE := HSD
          have hb2 : Below WW.heap.size WW ((WW.alloc (.cells #[.int .i64 x, .int .i64 y] 26)).drew) := ((Below.refl WW.heap.size WW).alloc (Nat.le_refl _) _).drew
          have HX2 : Hid (Below W1.heap.size W1 ((WW.alloc (.cells #[.int .i64 x, .int .i64 y] 26)).drew)) := Lib.hid (HWW.out.trans (hb2.mono HWW.out.size))
          have HS2 : Hid (((WW.alloc (.cells #[.int .i64 x, .int .i64 y] 26)).drew).cell? ⟨bb, ob + k, none⟩ = some (.int .i64 x) ∧ ((WW.alloc (.cells #[.int .i64 x, .int .i64 y] 26)).drew).cell? ⟨bb, ob + (k + 1), none⟩ = some (.int .i64 y)) := Lib.hid ⟨cell_on HX2.out HC0.out, cell_on HX2.out HC1.out⟩
          have HO2 := Lib.hid (ownM_below HOW.out hb2)
          have HG2 : Hid (Blk ((WW.alloc (.cells #[.int .i64 x, .int .i64 y] 26)).drew) WW.heap.size 26 #[.int .i64 x, .int .i64 y]) := Lib.hid (Blk.new WW _ _)
          clear hb2
          refine wp_region_held_drew (S := (fun X : World => X.cell? ⟨bb, ob + k, none⟩ = some (.int .i64 x) ∧ X.cell? ⟨bb, ob + (k + 1), none⟩ = some (.int .i64 y))) (by kernel_rfl) HSD.out (fun hHeld => ?_)
          clear hHeld
          refine wpAnyH_take (i := 0) (v := ?_) rfl (by kernel_rfl) (by kernel_rfl) (by kernel_rfl) (fun _ _ _ h => h) (Or.inl ⟨by rfl, ?_⟩) HSE.out ?_
          rotate_left
          · (intro wS hSw; (try dsimp only at hSw); go_simp; try with_reducible rfl)
          simp only [Act.put, List.getElem_toArray, List.getElem_cons_zero, List.getElem_cons_succ, List.setIfInBounds_toArray, List.set_cons_zero, List.set_cons_succ]
          refine wpAnyH_take (i := 1) (v := ?_) rfl (by kernel_rfl) (by kernel_rfl) (by kernel_rfl) (fun _ _ _ h => h) (Or.inl ⟨by rfl, ?_⟩) HSE.out ?_
          rotate_left
          · (intro wS hSw; (try dsimp only at hSw); go_simp; try with_reducible rfl)
          simp only [Act.put, List.getElem_toArray, List.getElem_cons_zero, List.getElem_cons_succ, List.setIfInBounds_toArray, List.set_cons_zero, List.set_cons_succ]
          refine wpAnyH_take (i := 2) (v := ?_) rfl (by kernel_rfl) (by kernel_rfl) (by kernel_rfl) (fun _ _ _ h => h) (Or.inl ⟨by rfl, ?_⟩) HSE.out ?_
          rotate_left
          · (intro wS hSw; (try dsimp only at hSw); go_simp; try with_reducible rfl)
          simp only [Act.put, List.getElem_toArray, List.getElem_cons_zero, List.getElem_cons_succ, List.setIfInBounds_toArray, List.set_cons_zero, List.set_cons_succ]
          refine wpAnyH_take (i := 3) (v := ?_) rfl (by kernel_rfl) (by kernel_rfl) (by kernel_rfl) (fun _ _ _ h => h) (Or.inl ⟨by rfl, ?_⟩) HSE.out ?_
          rotate_left
          · (intro wS hSw; (try dsimp only at hSw); go_simp; try with_reducible rfl)
          simp only [Act.put, List.getElem_toArray, List.getElem_cons_zero, List.getElem_cons_succ, List.setIfInBounds_toArray, List.set_cons_zero, List.set_cons_succ]
          refine wpAnyH_take (i := 4) (v := ?_) rfl (by kernel_rfl) (by kernel_rfl) (by kernel_rfl) (fun _ _ _ h => h) (Or.inl ⟨by rfl, ?_⟩) HSE.out ?_
          rotate_left
          · (intro wS hSw; (try dsimp only at hSw); go_simp; try with_reducible rfl)
          simp only [Act.put, List.getElem_toArray, List.getElem_cons_zero, List.getElem_cons_succ, List.setIfInBounds_toArray, List.set_cons_zero, List.set_cons_succ]
          refine wpAnyH_take (i := 5) (v := ?_) rfl (by kernel_rfl) (by kernel_rfl) (by kernel_rfl) (fun _ _ _ h => h) (Or.inl ⟨by rfl, ?_⟩) HSE.out ?_
          rotate_left
          · (intro wS hSw; (try dsimp only at hSw); go_simp; try with_reducible rfl)
          simp only [Act.put, List.getElem_toArray, List.getElem_cons_zero, List.getElem_cons_succ, List.setIfInBounds_toArray, List.set_cons_zero, List.set_cons_succ]
          refine wpAnyH_take (i := 6) (v := ?_) rfl (by kernel_rfl) (by kernel_rfl) (by kernel_rfl) (fun _ _ _ h => h) (Or.inl ⟨by rfl, ?_⟩) HSE.out ?_
          rotate_left
          · (intro wS hSw; (try dsimp only at hSw); go_simp; try with_reducible rfl)
          simp only [Act.put, List.getElem_toArray, List.getElem_cons_zero, List.getElem_cons_succ, List.setIfInBounds_toArray, List.set_cons_zero, List.set_cons_succ]
          refine wpAnyH_take (i := 7) (v := ?_) rfl (by kernel_rfl) (by kernel_rfl) (by kernel_rfl) (fun _ _ _ h => h) (Or.inl ⟨by rfl, ?_⟩) HSE.out ?_
          rotate_left
          · (intro wS hSw; (try dsimp only at hSw); go_simp; try with_reducible rfl)
          simp only [Act.put, List.getElem_toArray, List.getElem_cons_zero, List.getElem_cons_succ, List.setIfInBounds_toArray, List.set_cons_zero, List.set_cons_succ]
          refine wpAnyH_take (i := 8) (v := ?_) rfl (by kernel_rfl) (by kernel_rfl) (by kernel_rfl) (fun _ _ _ h => h) (Or.inl ⟨by rfl, ?_⟩) HSE.out ?_
          rotate_left
          · (intro wS hSw; (try dsimp only at hSw); go_simp; try with_reducible rfl)
          simp only [Act.put, List.getElem_toArray, List.getElem_cons_zero, List.getElem_cons_succ, List.setIfInBounds_toArray, List.set_cons_zero, List.set_cons_succ]
          refine wpAnyH_take (i := 9) (v := ?_) rfl (by kernel_rfl) (by kernel_rfl) (by kernel_rfl) (fun _ _ _ h => h) (Or.inl ⟨by rfl, ?_⟩) HSE.out ?_
          rotate_left
          · (intro wS hSw; (try dsimp only at hSw); go_simp; try with_reducible rfl)
          simp only [Act.put, List.getElem_toArray, List.getElem_cons_zero, List.getElem_cons_succ, List.setIfInBounds_toArray, List.set_cons_zero, List.set_cons_succ]
          refine wpAnyH_take (i := 10) (v := ?_) rfl (by kernel_rfl) (by kernel_rfl) (by kernel_rfl) (fun _ _ _ h => h) (Or.inl ⟨by rfl, ?_⟩) HSE.out ?_
          rotate_left
          · (intro wS hSw; (try dsimp only at hSw); go_simp; try with_reducible rfl)
          simp only [Act.put, List.getElem_toArray, List.getElem_cons_zero, List.getElem_cons_succ, List.setIfInBounds_toArray, List.set_cons_zero, List.set_cons_succ]
          refine wpAnyH_ready (rs := [11]) (by kernel_rfl) (by simp) ?_
          refine AllReadyH.cons rfl (fun K hK => ?_) AllReadyH.nil
          go_simp
          refine hK.out _ _ HS2.out (fun hHeld => ?_)
          clear hK K hHeld
          try simp only [Act.put, List.getElem_toArray, List.getElem_cons_zero, List.getElem_cons_succ, List.setIfInBounds_toArray, List.set_cons_zero, List.set_cons_succ]
          refine wpAnyH_ready (rs := [12]) (by kernel_rfl) (by simp) ?_
          refine AllReadyH.cons rfl (fun K hK => ?_) AllReadyH.nil
          refine step_span (by rfl) _ _ (by rfl) W1.heap.size ov 0 [] (by rfl) HO2.out WW.heap.size 1 x y (by rfl) HG2.out (by have := HML.out; omega) (by have := HWW.out.size; simp; omega) ?_
          intro v3 u3 p3 q3
          have HB3 : Hid (Below W1.heap.size W1 u3) := Lib.hid (HX2.out.trans q3)
          have HS3 : Hid (u3.cell? ⟨bb, ob + k, none⟩ = some (.int .i64 x) ∧ u3.cell? ⟨bb, ob + (k + 1), none⟩ = some (.int .i64 y)) := Lib.hid ⟨cell_on HB3.out HC0.out, cell_on HB3.out HC1.out⟩
          have HP3 := Lib.hid p3
          clear p3 q3
          refine hK.out _ _ HS3.out (fun hHeld => ?_)
          clear hK K hHeld
          try simp only [Act.put, List.getElem_toArray, List.getElem_cons_zero, List.getElem_cons_succ, List.setIfInBounds_toArray, List.set_cons_zero, List.set_cons_succ]
          refine wpAnyH_take (i := 13) (v := ?_) rfl (by kernel_rfl) (by kernel_rfl) (by kernel_rfl) (fun _ _ _ h => h) (Or.inl ⟨by rfl, ?_⟩) HS3.out ?_
          rotate_left
          · (intro wS hSw; (try dsimp only at hSw); go_simp; try with_reducible rfl)
          simp only [Act.put, List.getElem_toArray, List.getElem_cons_zero, List.getElem_cons_succ, List.setIfInBounds_toArray, List.set_cons_zero, List.set_cons_succ]
          refine wpAnyH_done (by kernel_rfl) ?_ _
          go_wp2_with fail
          go_roundg (NB - (k + 1))
          case rel => exact ⟨k + 1, by omega, rfl, by go_num, Lib.hid ⟨by
              have e1 : mkA f (zat B) (k + 1) = [] ++ [(x, y)] := by rw [mk_new HF.out (fun L p e => by rw [HMk.out] at e; simp at e), HMk.out, HXX.out, HYY.out]
              rw [e1, ← rowS_push, List.length_nil, rowM_zero]
              exact HP3.out, HB3.out⟩⟩
          case measure => omega
        · rw [List.concat_eq_append] at hM
          obtain ⟨p, q⟩ := pq
          subst hM
          have hml : (M' ++ [(p, q)]).length = M'.length + 1 := by simp
          rw [hml] at HI
          obtain ⟨go, cap0, rfl, hgo, hcap⟩ := ownM_head HI.out.1 (by omega)
          have hHML := HML.out
          rw [hml] at hHML
          have cq := ownM_at HI.out.1 (i := M'.length) (j := 1) (by omega) (by omega)
          rw [zS_last] at cq
          have cqf := HI.out.1.frozenAt (M'.length * 2 + 1)
          have HS := Lib.hid (And.intro (cell_on (HI.out.2).drew HC0.out) (cell_on (HI.out.2).drew HC1.out))
          have HS9 := Lib.hid (And.intro (cell_on (HI.out.2).drew HC0.out) (And.intro (cell_on (HI.out.2).drew HC1.out) (cell_on ((Below.refl wr.heap.size wr).drew) cq)))
          have hm1 : ((M'.length + 1 : Nat) : Int) - 1 = (M'.length : Int) := by omega
          have hm2 : (0 : Int) < ((M'.length + 1 : Nat) : Int) := by omega
          have hm3 : (M'.length : Int) + 1 - 1 = (M'.length : Int) := by omega
          have hm4 : IntKind.i64.wrap (M'.length : Int) = (M'.length : Int) := IntWalk.i64_in _ (by omega)
          have hm5 : (M'.length : Int) < (M'.length : Int) + 1 := by omega
          have HCQ := Lib.hid cq
          clear cq
          by_cases hqx : q = x
          · have hqx' : x = q := hqx.symm
            subst hqx'
            go_wp2_with fail
            refine wp_region_held_drew (S := (fun X : World => X.cell? ⟨bb, ob + k, none⟩ = some (.int .i64 x) ∧ X.cell? ⟨bb, ob + (k + 1), none⟩ = some (.int .i64 y) ∧ X.cell? ⟨go, M'.length * 2 + 1, none⟩ = some (.int .i64 x))) (by kernel_rfl) HS9.out (fun hHeld => ?_)
            clear hHeld
            refine wpAnyH_take (i := 0) (v := ?_) rfl (by kernel_rfl) (by kernel_rfl) (by kernel_rfl) (fun _ _ _ h => h) (Or.inl ⟨by rfl, ?_⟩) HS9.out ?_
            rotate_left
            · (intro wS hSw; (try dsimp only at hSw); go_simp; try with_reducible rfl)
            simp only [Act.put, List.getElem_toArray, List.getElem_cons_zero, List.getElem_cons_succ, List.setIfInBounds_toArray, List.set_cons_zero, List.set_cons_succ]
            refine wpAnyH_take (i := 1) (v := ?_) rfl (by kernel_rfl) (by kernel_rfl) (by kernel_rfl) (fun _ _ _ h => h) (Or.inl ⟨by rfl, ?_⟩) HS9.out ?_
            rotate_left
            · (intro wS hSw; (try dsimp only at hSw); go_simp; try with_reducible rfl)
            simp only [Act.put, List.getElem_toArray, List.getElem_cons_zero, List.getElem_cons_succ, List.setIfInBounds_toArray, List.set_cons_zero, List.set_cons_succ]
            refine wpAnyH_take (i := 2) (v := ?_) rfl (by kernel_rfl) (by kernel_rfl) (by kernel_rfl) (fun _ _ _ h => h) (Or.inl ⟨by rfl, ?_⟩) HS9.out ?_
            rotate_left
            · (intro wS hSw; (try dsimp only at hSw); go_simp; try with_reducible rfl)
            simp only [Act.put, List.getElem_toArray, List.getElem_cons_zero, List.getElem_cons_succ, List.setIfInBounds_toArray, List.set_cons_zero, List.set_cons_succ]
            refine wpAnyH_take (i := 3) (v := ?_) rfl (by kernel_rfl) (by kernel_rfl) (by kernel_rfl) (fun _ _ _ h => h) (Or.inl ⟨by rfl, ?_⟩) HS9.out ?_
            rotate_left
            · (intro wS hSw; (try dsimp only at hSw); go_simp; try with_reducible rfl)
            simp only [Act.put, List.getElem_toArray, List.getElem_cons_zero, List.getElem_cons_succ, List.setIfInBounds_toArray, List.set_cons_zero, List.set_cons_succ]
            refine wpAnyH_take (i := 4) (v := ?_) rfl (by kernel_rfl) (by kernel_rfl) (by kernel_rfl) (fun _ _ _ h => h) (Or.inl ⟨by rfl, ?_⟩) HS9.out ?_
            rotate_left
            · (intro wS hSw; (try dsimp only at hSw); go_simp; try with_reducible rfl)
            simp only [Act.put, List.getElem_toArray, List.getElem_cons_zero, List.getElem_cons_succ, List.setIfInBounds_toArray, List.set_cons_zero, List.set_cons_succ]
            refine wpAnyH_take (i := 5) (v := ?_) rfl (by kernel_rfl) (by kernel_rfl) (by kernel_rfl) (fun _ _ _ h => h) (Or.inl ⟨by rfl, ?_⟩) HS9.out ?_
            rotate_left
            · (intro wS hSw; (try dsimp only at hSw); go_simp; try with_reducible rfl)
            simp only [Act.put, List.getElem_toArray, List.getElem_cons_zero, List.getElem_cons_succ, List.setIfInBounds_toArray, List.set_cons_zero, List.set_cons_succ]
            refine wpAnyH_take (i := 6) (v := ?_) rfl (by kernel_rfl) (by kernel_rfl) (by kernel_rfl) (fun _ _ _ h => h) (Or.inl ⟨by rfl, ?_⟩) HS9.out ?_
            rotate_left
            · (intro wS hSw; (try dsimp only at hSw); go_simp; try with_reducible rfl)
            simp only [Act.put, List.getElem_toArray, List.getElem_cons_zero, List.getElem_cons_succ, List.setIfInBounds_toArray, List.set_cons_zero, List.set_cons_succ]
            refine wpAnyH_take (i := 7) (v := ?_) rfl (by kernel_rfl) (by kernel_rfl) (by kernel_rfl) (fun _ _ _ h => h) (Or.inl ⟨by rfl, ?_⟩) HS9.out ?_
            rotate_left
            · (intro wS hSw; (try dsimp only at hSw); go_simp; try with_reducible rfl)
            simp only [Act.put, List.getElem_toArray, List.getElem_cons_zero, List.getElem_cons_succ, List.setIfInBounds_toArray, List.set_cons_zero, List.set_cons_succ]
            refine wpAnyH_take (i := 8) (v := ?_) rfl (by kernel_rfl) (by kernel_rfl) (by kernel_rfl) (fun _ _ _ h => h) (Or.inl ⟨by rfl, ?_⟩) HS9.out ?_
            rotate_left
            · (intro wS hSw; (try dsimp only at hSw); go_simp; try with_reducible rfl)
            simp only [Act.put, List.getElem_toArray, List.getElem_cons_zero, List.getElem_cons_succ, List.setIfInBounds_toArray, List.set_cons_zero, List.set_cons_succ]
            refine wpAnyH_take (i := 9) (v := ?_) rfl (by kernel_rfl) (by kernel_rfl) (by kernel_rfl) (fun _ _ _ h => h) (Or.inl ⟨by rfl, ?_⟩) HS9.out ?_
            rotate_left
            · (intro wS hSw; (try dsimp only at hSw); go_simp; try with_reducible rfl)
            simp only [Act.put, List.getElem_toArray, List.getElem_cons_zero, List.getElem_cons_succ, List.setIfInBounds_toArray, List.set_cons_zero, List.set_cons_succ]
            refine wpAnyH_take (i := 10) (v := ?_) rfl (by kernel_rfl) (by kernel_rfl) (by kernel_rfl) (fun _ _ _ h => h) (Or.inl ⟨by rfl, ?_⟩) HS9.out ?_
            rotate_left
            · (intro wS hSw; (try dsimp only at hSw); go_simp; try with_reducible rfl)
            simp only [Act.put, List.getElem_toArray, List.getElem_cons_zero, List.getElem_cons_succ, List.setIfInBounds_toArray, List.set_cons_zero, List.set_cons_succ]
            refine wpAnyH_take (i := 11) (v := ?_) rfl (by kernel_rfl) (by kernel_rfl) (by kernel_rfl) (fun _ _ _ h => h) (Or.inl ⟨by rfl, ?_⟩) HS9.out ?_
            rotate_left
            · (intro wS hSw; (try dsimp only at hSw); go_simp; try with_reducible rfl)
            simp only [Act.put, List.getElem_toArray, List.getElem_cons_zero, List.getElem_cons_succ, List.setIfInBounds_toArray, List.set_cons_zero, List.set_cons_succ]
            refine wpAnyH_take (i := 12) (v := ?_) rfl (by kernel_rfl) (by kernel_rfl) (by kernel_rfl) (fun _ _ _ h => h) (Or.inl ⟨by rfl, ?_⟩) HS9.out ?_
            rotate_left
            · (intro wS hSw; (try dsimp only at hSw); go_simp; try with_reducible rfl)
            simp only [Act.put, List.getElem_toArray, List.getElem_cons_zero, List.getElem_cons_succ, List.setIfInBounds_toArray, List.set_cons_zero, List.set_cons_succ]
            refine wpAnyH_take (i := 13) (v := ?_) rfl (by kernel_rfl) (by kernel_rfl) (by kernel_rfl) (fun _ _ _ h => h) (Or.inl ⟨by rfl, ?_⟩) HS9.out ?_
            rotate_left
            · (intro wS hSw; (try dsimp only at hSw); go_simp; try with_reducible rfl)
            simp only [Act.put, List.getElem_toArray, List.getElem_cons_zero, List.getElem_cons_succ, List.setIfInBounds_toArray, List.set_cons_zero, List.set_cons_succ]
            refine wpAnyH_take (i := 14) (v := ?_) rfl (by kernel_rfl) (by kernel_rfl) (by kernel_rfl) (fun _ _ _ h => h) (Or.inl ⟨by rfl, ?_⟩) HS9.out ?_
            rotate_left
            · (intro wS hSw; (try dsimp only at hSw); go_simp; try with_reducible rfl)
            simp only [Act.put, List.getElem_toArray, List.getElem_cons_zero, List.getElem_cons_succ, List.setIfInBounds_toArray, List.set_cons_zero, List.set_cons_succ]
            refine wpAnyH_done (by kernel_rfl) ?_ _
            obtain ⟨WW, hWW⟩ : ∃ X, wr.drew = X := ⟨_, rfl⟩
            have s0 : WW.cell? ⟨go, M'.length * 2 + 1, none⟩ = some (.int .i64 x) := by rw [← hWW]; exact HCQ.out
            have s1 : WW.frozen? ⟨go, M'.length * 2 + 1, none⟩ = false := by rw [← hWW]; exact cqf
            have s2 : WW.cell? ⟨bb, ob + (k + 1), none⟩ = some (.int .i64 y) := by rw [← hWW]; exact HS.out.2
            have HOW := Lib.hid (ownM_below HI.out.1 (Below.refl wr.heap.size wr).drew)
            have HWW : Hid (Below W1.heap.size W1 wr.drew) := Lib.hid HI.out.2.drew
            rw [hWW] at HOW HWW
            try rw [hWW]
            clear hWW cqf
            go_wp2_with fail
            go_roundg (NB - (k + 1))
            case rel => exact ⟨k + 1, by omega, rfl, by go_num, Lib.hid ⟨by
              rw [mk_old (L := M') (a := p) HF.out (by rw [HMk.out, HXX.out]), HYY.out, List.length_append]
              have := ownM_put HOW.out (i := M'.length) (j := 1) (by omega) y
              rw [rowS_last] at this
              exact this, HWW.out.setCell (p := ⟨go, M'.length * 2 + 1, none⟩) hgo _⟩⟩
            case measure => omega
          · have hne : (q == x) = false := by rw [beq_eq_false_iff_ne]; exact hqx
            go_wp2_with fail
            refine wp_region_held_drew (S := (fun X : World => X.cell? ⟨bb, ob + k, none⟩ = some (.int .i64 x) ∧ X.cell? ⟨bb, ob + (k + 1), none⟩ = some (.int .i64 y) ∧ X.cell? ⟨go, M'.length * 2 + 1, none⟩ = some (.int .i64 q))) (by kernel_rfl) HS9.out (fun hHeld => ?_)
            clear hHeld
            refine wpAnyH_take (i := 0) (v := ?_) rfl (by kernel_rfl) (by kernel_rfl) (by kernel_rfl) (fun _ _ _ h => h) (Or.inl ⟨by rfl, ?_⟩) HS9.out ?_
            rotate_left
            · (intro wS hSw; (try dsimp only at hSw); go_simp; try with_reducible rfl)
            simp only [Act.put, List.getElem_toArray, List.getElem_cons_zero, List.getElem_cons_succ, List.setIfInBounds_toArray, List.set_cons_zero, List.set_cons_succ]
            refine wpAnyH_take (i := 1) (v := ?_) rfl (by kernel_rfl) (by kernel_rfl) (by kernel_rfl) (fun _ _ _ h => h) (Or.inl ⟨by rfl, ?_⟩) HS9.out ?_
            rotate_left
            · (intro wS hSw; (try dsimp only at hSw); go_simp; try with_reducible rfl)
            simp only [Act.put, List.getElem_toArray, List.getElem_cons_zero, List.getElem_cons_succ, List.setIfInBounds_toArray, List.set_cons_zero, List.set_cons_succ]
            refine wpAnyH_take (i := 2) (v := ?_) rfl (by kernel_rfl) (by kernel_rfl) (by kernel_rfl) (fun _ _ _ h => h) (Or.inl ⟨by rfl, ?_⟩) HS9.out ?_
            rotate_left
            · (intro wS hSw; (try dsimp only at hSw); go_simp; try with_reducible rfl)
            simp only [Act.put, List.getElem_toArray, List.getElem_cons_zero, List.getElem_cons_succ, List.setIfInBounds_toArray, List.set_cons_zero, List.set_cons_succ]
            refine wpAnyH_take (i := 3) (v := ?_) rfl (by kernel_rfl) (by kernel_rfl) (by kernel_rfl) (fun _ _ _ h => h) (Or.inl ⟨by rfl, ?_⟩) HS9.out ?_
            rotate_left
            · (intro wS hSw; (try dsimp only at hSw); go_simp; try with_reducible rfl)
            simp only [Act.put, List.getElem_toArray, List.getElem_cons_zero, List.getElem_cons_succ, List.setIfInBounds_toArray, List.set_cons_zero, List.set_cons_succ]
            refine wpAnyH_take (i := 4) (v := ?_) rfl (by kernel_rfl) (by kernel_rfl) (by kernel_rfl) (fun _ _ _ h => h) (Or.inl ⟨by rfl, ?_⟩) HS9.out ?_
            rotate_left
            · (intro wS hSw; (try dsimp only at hSw); go_simp; try with_reducible rfl)
            simp only [Act.put, List.getElem_toArray, List.getElem_cons_zero, List.getElem_cons_succ, List.setIfInBounds_toArray, List.set_cons_zero, List.set_cons_succ]
            refine wpAnyH_take (i := 5) (v := ?_) rfl (by kernel_rfl) (by kernel_rfl) (by kernel_rfl) (fun _ _ _ h => h) (Or.inl ⟨by rfl, ?_⟩) HS9.out ?_
            rotate_left
            · (intro wS hSw; (try dsimp only at hSw); go_simp; try with_reducible rfl)
            simp only [Act.put, List.getElem_toArray, List.getElem_cons_zero, List.getElem_cons_succ, List.setIfInBounds_toArray, List.set_cons_zero, List.set_cons_succ]
            refine wpAnyH_take (i := 6) (v := ?_) rfl (by kernel_rfl) (by kernel_rfl) (by kernel_rfl) (fun _ _ _ h => h) (Or.inl ⟨by rfl, ?_⟩) HS9.out ?_
            rotate_left
            · (intro wS hSw; (try dsimp only at hSw); go_simp; try with_reducible rfl)
            simp only [Act.put, List.getElem_toArray, List.getElem_cons_zero, List.getElem_cons_succ, List.setIfInBounds_toArray, List.set_cons_zero, List.set_cons_succ]
            refine wpAnyH_take (i := 7) (v := ?_) rfl (by kernel_rfl) (by kernel_rfl) (by kernel_rfl) (fun _ _ _ h => h) (Or.inl ⟨by rfl, ?_⟩) HS9.out ?_
            rotate_left
            · (intro wS hSw; (try dsimp only at hSw); go_simp; try with_reducible rfl)
            simp only [Act.put, List.getElem_toArray, List.getElem_cons_zero, List.getElem_cons_succ, List.setIfInBounds_toArray, List.set_cons_zero, List.set_cons_succ]
            refine wpAnyH_take (i := 8) (v := ?_) rfl (by kernel_rfl) (by kernel_rfl) (by kernel_rfl) (fun _ _ _ h => h) (Or.inl ⟨by rfl, ?_⟩) HS9.out ?_
            rotate_left
            · (intro wS hSw; (try dsimp only at hSw); go_simp; try with_reducible rfl)
            simp only [Act.put, List.getElem_toArray, List.getElem_cons_zero, List.getElem_cons_succ, List.setIfInBounds_toArray, List.set_cons_zero, List.set_cons_succ]
            refine wpAnyH_take (i := 9) (v := ?_) rfl (by kernel_rfl) (by kernel_rfl) (by kernel_rfl) (fun _ _ _ h => h) (Or.inl ⟨by rfl, ?_⟩) HS9.out ?_
            rotate_left
            · (intro wS hSw; (try dsimp only at hSw); go_simp; try with_reducible rfl)
            simp only [Act.put, List.getElem_toArray, List.getElem_cons_zero, List.getElem_cons_succ, List.setIfInBounds_toArray, List.set_cons_zero, List.set_cons_succ]
            refine wpAnyH_take (i := 10) (v := ?_) rfl (by kernel_rfl) (by kernel_rfl) (by kernel_rfl) (fun _ _ _ h => h) (Or.inl ⟨by rfl, ?_⟩) HS9.out ?_
            rotate_left
            · (intro wS hSw; (try dsimp only at hSw); go_simp; try with_reducible rfl)
            simp only [Act.put, List.getElem_toArray, List.getElem_cons_zero, List.getElem_cons_succ, List.setIfInBounds_toArray, List.set_cons_zero, List.set_cons_succ]
            refine wpAnyH_take (i := 11) (v := ?_) rfl (by kernel_rfl) (by kernel_rfl) (by kernel_rfl) (fun _ _ _ h => h) (Or.inl ⟨by rfl, ?_⟩) HS9.out ?_
            rotate_left
            · (intro wS hSw; (try dsimp only at hSw); go_simp; try with_reducible rfl)
            simp only [Act.put, List.getElem_toArray, List.getElem_cons_zero, List.getElem_cons_succ, List.setIfInBounds_toArray, List.set_cons_zero, List.set_cons_succ]
            refine wpAnyH_take (i := 12) (v := ?_) rfl (by kernel_rfl) (by kernel_rfl) (by kernel_rfl) (fun _ _ _ h => h) (Or.inl ⟨by rfl, ?_⟩) HS9.out ?_
            rotate_left
            · (intro wS hSw; (try dsimp only at hSw); go_simp; try with_reducible rfl)
            simp only [Act.put, List.getElem_toArray, List.getElem_cons_zero, List.getElem_cons_succ, List.setIfInBounds_toArray, List.set_cons_zero, List.set_cons_succ]
            refine wpAnyH_take (i := 13) (v := ?_) rfl (by kernel_rfl) (by kernel_rfl) (by kernel_rfl) (fun _ _ _ h => h) (Or.inl ⟨by rfl, ?_⟩) HS9.out ?_
            rotate_left
            · (intro wS hSw; (try dsimp only at hSw); go_simp; try with_reducible rfl)
            simp only [Act.put, List.getElem_toArray, List.getElem_cons_zero, List.getElem_cons_succ, List.setIfInBounds_toArray, List.set_cons_zero, List.set_cons_succ]
            refine wpAnyH_take (i := 14) (v := ?_) rfl (by kernel_rfl) (by kernel_rfl) (by kernel_rfl) (fun _ _ _ h => h) (Or.inl ⟨by rfl, ?_⟩) HS9.out ?_
            rotate_left
            · (intro wS hSw; (try dsimp only at hSw); go_simp; try with_reducible rfl)
            simp only [Act.put, List.getElem_toArray, List.getElem_cons_zero, List.getElem_cons_succ, List.setIfInBounds_toArray, List.set_cons_zero, List.set_cons_succ]
            refine wpAnyH_done (by kernel_rfl) ?_ _
            go_wp2_with fail
            obtain ⟨ov, hov⟩ : ∃ v, Value.slice (some ⟨go, 0, none⟩) (M'.length + 1) cap0 = v := ⟨_, rfl⟩
            rw [hov] at HI
            try rw [hov]
            clear hov
            obtain ⟨WW, hWW⟩ : ∃ X, wr.drew = X := ⟨_, rfl⟩
            have HWW : Hid (Below W1.heap.size W1 WW) := Lib.hid (by rw [← hWW]; exact HI.out.2.drew)
            have HOW : Hid (WW.ownsRow W1.heap.size 26 2 ov (M'.length + 1) (rowM 2 (zS (M' ++ [(p, q)])) (M'.length + 1))) := Lib.hid (by rw [← hWW]; exact ownM_below HI.out.1 (Below.refl _ _).drew)
            try rw [hWW]
            clear hWW
            have HSD : Hid (WW.drew.cell? ⟨bb, ob + k, none⟩ = some (.int .i64 x) ∧ WW.drew.cell? ⟨bb, ob + (k + 1), none⟩ = some (.int .i64 y)) := Lib.hid ⟨cell_on HWW.out.drew HC0.out, cell_on HWW.out.drew HC1.out⟩
            have HSE := HSD
            have hb2 : Below WW.heap.size WW ((WW.alloc (.cells #[.int .i64 x, .int .i64 y] 26)).drew) := ((Below.refl WW.heap.size WW).alloc (Nat.le_refl _) _).drew
            have HX2 : Hid (Below W1.heap.size W1 ((WW.alloc (.cells #[.int .i64 x, .int .i64 y] 26)).drew)) := Lib.hid (HWW.out.trans (hb2.mono HWW.out.size))
            have HS2 : Hid (((WW.alloc (.cells #[.int .i64 x, .int .i64 y] 26)).drew).cell? ⟨bb, ob + k, none⟩ = some (.int .i64 x) ∧ ((WW.alloc (.cells #[.int .i64 x, .int .i64 y] 26)).drew).cell? ⟨bb, ob + (k + 1), none⟩ = some (.int .i64 y)) := Lib.hid ⟨cell_on HX2.out HC0.out, cell_on HX2.out HC1.out⟩
            have HO2 := Lib.hid (ownM_below HOW.out hb2)
            have HG2 : Hid (Blk ((WW.alloc (.cells #[.int .i64 x, .int .i64 y] 26)).drew) WW.heap.size 26 #[.int .i64 x, .int .i64 y]) := Lib.hid (Blk.new WW _ _)
            clear hb2
            refine wp_region_held_drew (S := (fun X : World => X.cell? ⟨bb, ob + k, none⟩ = some (.int .i64 x) ∧ X.cell? ⟨bb, ob + (k + 1), none⟩ = some (.int .i64 y))) (by kernel_rfl) HSD.out (fun hHeld => ?_)
            clear hHeld
            refine wpAnyH_take (i := 0) (v := ?_) rfl (by kernel_rfl) (by kernel_rfl) (by kernel_rfl) (fun _ _ _ h => h) (Or.inl ⟨by rfl, ?_⟩) HSE.out ?_
            rotate_left
            · (intro wS hSw; (try dsimp only at hSw); go_simp; try with_reducible rfl)
            simp only [Act.put, List.getElem_toArray, List.getElem_cons_zero, List.getElem_cons_succ, List.setIfInBounds_toArray, List.set_cons_zero, List.set_cons_succ]
            refine wpAnyH_take (i := 1) (v := ?_) rfl (by kernel_rfl) (by kernel_rfl) (by kernel_rfl) (fun _ _ _ h => h) (Or.inl ⟨by rfl, ?_⟩) HSE.out ?_
            rotate_left
            · (intro wS hSw; (try dsimp only at hSw); go_simp; try with_reducible rfl)
            simp only [Act.put, List.getElem_toArray, List.getElem_cons_zero, List.getElem_cons_succ, List.setIfInBounds_toArray, List.set_cons_zero, List.set_cons_succ]
            refine wpAnyH_take (i := 2) (v := ?_) rfl (by kernel_rfl) (by kernel_rfl) (by kernel_rfl) (fun _ _ _ h => h) (Or.inl ⟨by rfl, ?_⟩) HSE.out ?_
            rotate_left
            · (intro wS hSw; (try dsimp only at hSw); go_simp; try with_reducible rfl)
            simp only [Act.put, List.getElem_toArray, List.getElem_cons_zero, List.getElem_cons_succ, List.setIfInBounds_toArray, List.set_cons_zero, List.set_cons_succ]
            refine wpAnyH_take (i := 3) (v := ?_) rfl (by kernel_rfl) (by kernel_rfl) (by kernel_rfl) (fun _ _ _ h => h) (Or.inl ⟨by rfl, ?_⟩) HSE.out ?_
            rotate_left
            · (intro wS hSw; (try dsimp only at hSw); go_simp; try with_reducible rfl)
            simp only [Act.put, List.getElem_toArray, List.getElem_cons_zero, List.getElem_cons_succ, List.setIfInBounds_toArray, List.set_cons_zero, List.set_cons_succ]
            refine wpAnyH_take (i := 4) (v := ?_) rfl (by kernel_rfl) (by kernel_rfl) (by kernel_rfl) (fun _ _ _ h => h) (Or.inl ⟨by rfl, ?_⟩) HSE.out ?_
            rotate_left
            · (intro wS hSw; (try dsimp only at hSw); go_simp; try with_reducible rfl)
            simp only [Act.put, List.getElem_toArray, List.getElem_cons_zero, List.getElem_cons_succ, List.setIfInBounds_toArray, List.set_cons_zero, List.set_cons_succ]
            refine wpAnyH_take (i := 5) (v := ?_) rfl (by kernel_rfl) (by kernel_rfl) (by kernel_rfl) (fun _ _ _ h => h) (Or.inl ⟨by rfl, ?_⟩) HSE.out ?_
            rotate_left
            · (intro wS hSw; (try dsimp only at hSw); go_simp; try with_reducible rfl)
            simp only [Act.put, List.getElem_toArray, List.getElem_cons_zero, List.getElem_cons_succ, List.setIfInBounds_toArray, List.set_cons_zero, List.set_cons_succ]
            refine wpAnyH_take (i := 6) (v := ?_) rfl (by kernel_rfl) (by kernel_rfl) (by kernel_rfl) (fun _ _ _ h => h) (Or.inl ⟨by rfl, ?_⟩) HSE.out ?_
            rotate_left
            · (intro wS hSw; (try dsimp only at hSw); go_simp; try with_reducible rfl)
            simp only [Act.put, List.getElem_toArray, List.getElem_cons_zero, List.getElem_cons_succ, List.setIfInBounds_toArray, List.set_cons_zero, List.set_cons_succ]
            refine wpAnyH_take (i := 7) (v := ?_) rfl (by kernel_rfl) (by kernel_rfl) (by kernel_rfl) (fun _ _ _ h => h) (Or.inl ⟨by rfl, ?_⟩) HSE.out ?_
            rotate_left
            · (intro wS hSw; (try dsimp only at hSw); go_simp; try with_reducible rfl)
            simp only [Act.put, List.getElem_toArray, List.getElem_cons_zero, List.getElem_cons_succ, List.setIfInBounds_toArray, List.set_cons_zero, List.set_cons_succ]
            refine wpAnyH_take (i := 8) (v := ?_) rfl (by kernel_rfl) (by kernel_rfl) (by kernel_rfl) (fun _ _ _ h => h) (Or.inl ⟨by rfl, ?_⟩) HSE.out ?_
            rotate_left
            · (intro wS hSw; (try dsimp only at hSw); go_simp; try with_reducible rfl)
            simp only [Act.put, List.getElem_toArray, List.getElem_cons_zero, List.getElem_cons_succ, List.setIfInBounds_toArray, List.set_cons_zero, List.set_cons_succ]
            refine wpAnyH_take (i := 9) (v := ?_) rfl (by kernel_rfl) (by kernel_rfl) (by kernel_rfl) (fun _ _ _ h => h) (Or.inl ⟨by rfl, ?_⟩) HSE.out ?_
            rotate_left
            · (intro wS hSw; (try dsimp only at hSw); go_simp; try with_reducible rfl)
            simp only [Act.put, List.getElem_toArray, List.getElem_cons_zero, List.getElem_cons_succ, List.setIfInBounds_toArray, List.set_cons_zero, List.set_cons_succ]
            refine wpAnyH_take (i := 10) (v := ?_) rfl (by kernel_rfl) (by kernel_rfl) (by kernel_rfl) (fun _ _ _ h => h) (Or.inl ⟨by rfl, ?_⟩) HSE.out ?_
            rotate_left
            · (intro wS hSw; (try dsimp only at hSw); go_simp; try with_reducible rfl)
            simp only [Act.put, List.getElem_toArray, List.getElem_cons_zero, List.getElem_cons_succ, List.setIfInBounds_toArray, List.set_cons_zero, List.set_cons_succ]
            refine wpAnyH_ready (rs := [11]) (by kernel_rfl) (by simp) ?_
            refine AllReadyH.cons rfl (fun K hK => ?_) AllReadyH.nil
            go_simp
            refine hK.out _ _ HS2.out (fun hHeld => ?_)
            clear hK K hHeld
            try simp only [Act.put, List.getElem_toArray, List.getElem_cons_zero, List.getElem_cons_succ, List.setIfInBounds_toArray, List.set_cons_zero, List.set_cons_succ]
            refine wpAnyH_ready (rs := [12]) (by kernel_rfl) (by simp) ?_
            refine AllReadyH.cons rfl (fun K hK => ?_) AllReadyH.nil
            refine step_span (by rfl) _ _ (by rfl) W1.heap.size ov (M'.length + 1) (rowM 2 (zS (M' ++ [(p, q)])) (M'.length + 1)) (by rfl) HO2.out WW.heap.size 1 x y (by rfl) HG2.out (by have := HML.out; omega) (by have := HWW.out.size; simp; omega) ?_
            intro v3 u3 p3 q3
            have HB3 : Hid (Below W1.heap.size W1 u3) := Lib.hid (HX2.out.trans q3)
            have HS3 : Hid (u3.cell? ⟨bb, ob + k, none⟩ = some (.int .i64 x) ∧ u3.cell? ⟨bb, ob + (k + 1), none⟩ = some (.int .i64 y)) := Lib.hid ⟨cell_on HB3.out HC0.out, cell_on HB3.out HC1.out⟩
            have HP3 := Lib.hid p3
            clear p3 q3
            refine hK.out _ _ HS3.out (fun hHeld => ?_)
            clear hK K hHeld
            try simp only [Act.put, List.getElem_toArray, List.getElem_cons_zero, List.getElem_cons_succ, List.setIfInBounds_toArray, List.set_cons_zero, List.set_cons_succ]
            refine wpAnyH_take (i := 13) (v := ?_) rfl (by kernel_rfl) (by kernel_rfl) (by kernel_rfl) (fun _ _ _ h => h) (Or.inl ⟨by rfl, ?_⟩) HS3.out ?_
            rotate_left
            · (intro wS hSw; (try dsimp only at hSw); go_simp; try with_reducible rfl)
            simp only [Act.put, List.getElem_toArray, List.getElem_cons_zero, List.getElem_cons_succ, List.setIfInBounds_toArray, List.set_cons_zero, List.set_cons_succ]
            refine wpAnyH_done (by kernel_rfl) ?_ _
            go_wp2_with fail
            go_roundg (NB - (k + 1))
            case rel => exact ⟨k + 1, by omega, rfl, by go_num, Lib.hid ⟨by
                have e1 : mkA f (zat B) (k + 1) = M' ++ [(p, q)] ++ [(x, y)] := by
                  rw [mk_new HF.out (fun L p' e => by rw [HMk.out] at e; have := List.append_inj_right' e rfl; simp only [List.cons.injEq, and_true] at this; rw [← this, HXX.out]; exact hqx), HMk.out, HXX.out, HYY.out]
                rw [e1]
                have e2 := rowS_push (M' ++ [(p, q)]) x y
                rw [List.length_append] at e2
                rw [← e2, List.length_append, List.length_append]
                exact HP3.out, HB3.out⟩⟩
            case measure => omega
    · have hk1 : ¬ (k : Int) + 1 < (NB : Int) := by omega
      have hkw : IntKind.i64.wrap ((k : Int) + 1) = (k : Int) + 1 := IntWalk.i64_in _ (by omega)
      have hkk : k = NB - 1 := by omega
      have HKK := Lib.hid hkk
      have hdd : decide ((k : Int) + 1 < (NB : Int)) = false := by simpa using hk1
      have HFIN : Hid (IsS wr _ (makeL a b 0)) := Lib.hid (by
        have e : makeL a b 0 = mkA f (zat B) k := by unfold makeL; rw [HBB.out, HNB.out, ← HKK.out, HFF.out]
        rw [e]
        refine own_isS HI.out.1 (fun p hp => ?_)
        obtain ⟨⟨j, h1, h2⟩, ⟨i, h3, h4⟩⟩ := mk_mem f (zat B) k p hp
        have hl : 0 < (mkA f (zat B) k).length := List.length_pos_of_mem hp
        have hl2 := mk_len f (zat B) k
        have hin : ∀ j, j ≤ k → zat B j ∈ B := fun j hj => at_mem (by rw [HNB.out]; omega)
        rw [h2, h4]
        exact ⟨HBW.out _ (hin j h1), HBW.out _ (hin i h3)⟩)
      have HLE : Hid ((makeL a b 0).length ≤ 2 * (a.length + b.length)) := Lib.hid (by
        have e : makeL a b 0 = mkA f (zat B) k := by unfold makeL; rw [HBB.out, HNB.out, ← HKK.out, HFF.out]
        have := mk_len f (zat B) k
        have := HLB.out
        rw [e]; omega)
      clear hkk hk
      go_wp2_with fail
      rw [← HR.out]
      exact ⟨_, rfl, HFIN.out, HE1.out.trans (HI.out.2.mono HE1.out.size), HLE.out⟩
set_option maxRecDepth 100000 in
set_option maxHeartbeats 8000000 in
theorem make1_any (va vb : Value) (a b : List (Int × Int)) (w : World) (ha : IsS w va a) (hb : IsS w vb b) (hla : a.length ≤ 1000) (hlb : b.length ≤ 1000) :
    Calls Try.prog 8 #[va, vb, .int .i64 1] w (MakR a b 1 w) := by
  have HA := Lib.hid ha; have HB := Lib.hid hb
  have KB := Lib.hid (bounds_any va vb a b w ha hb hla hlb)
  have hwa := zS_in ha; have hwb := zS_in hb
  have HBW : Hid (∀ x, x ∈ bdL (a ++ b) → -9223372036854775808 ≤ x ∧ x ≤ 9223372036854775807) := Lib.hid fun x hx => by
    obtain ⟨p, hp, e⟩ := (bd_mem (a ++ b) x).1 hx
    have h := (List.mem_append.1 hp).elim (hwa p) (hwb p)
    rcases e with rfl | rfl
    · exact h.1
    · exact h.2
  have HLB : Hid ((bdL (a ++ b)).length ≤ 2 * (a.length + b.length)) := Lib.hid (by have := bds_len (a ++ b) (2 * (a ++ b).length); unfold bdL; rw [List.length_append] at this ⊢; omega)
  obtain ⟨R, hR⟩ : ∃ R : Ending → World → Prop, MakR a b 1 w = R := ⟨_, rfl⟩
  have HR := Lib.hid hR
  rw [hR]
  clear hR ha hb hwa hwb
  go_enter Try.func8, Try.ntmps8
  go_wp2_with fail
  refine KB.out.mono ?_
  rintro e W1 ⟨vB, rfl, hIB, hbB⟩
  obtain ⟨AB, cB, rfl, rB, n1, n2, n3⟩ := hIB
  have HE1 := Lib.hid hbB
  obtain ⟨B, hBB⟩ : ∃ B, bdL (a ++ b) = B := ⟨_, rfl⟩
  have HBB := Lib.hid hBB
  rw [hBB] at rB n1 HBW HLB ⊢
  have HRB := Lib.hid rB
  obtain ⟨NB, hNB⟩ : ∃ n, B.length = n := ⟨_, rfl⟩
  have HNB := Lib.hid hNB
  rw [hNB] at n1 HLB ⊢
  obtain ⟨f, hf⟩ : ∃ f : Nat → Bool, (fun i => kindF 1 a b (zat B i)) = f := ⟨_, rfl⟩
  have HFF := Lib.hid hf
  have hNB2 : NB ≤ 4000 := by have := HLB.out; omega
  clear hbB rB hBB hNB n3 hf KB
  go_wp2_with fail
  go_loopg [8, 9] NB (fun g ov i wr => ∃ k : Nat, k ≤ NB - 1 ∧ g = NB - k ∧ i = .int .i64 k ∧ Hid (wr.ownsRow W1.heap.size 26 2 ov (mkA f (zat B) k).length (rowM 2 (zS (mkA f (zat B) k)) (mkA f (zat B) k).length) ∧ Below W1.heap.size W1 wr))
  case atStart => exact ⟨0, by omega, by omega, rfl, Lib.hid ⟨⟨by simp [mkA, rowM_len], Or.inl ⟨rfl, rfl⟩⟩, Below.refl _ _⟩⟩
  case round =>
    obtain ⟨k, hk, rfl, rfl, HI⟩ := hrel
    by_cases h : k + 1 < NB
    · have hk1 : (k : Int) + 1 < (NB : Int) := by omega
      have hkw : IntKind.i64.wrap ((k : Int) + 1) = (k : Int) + 1 := IntWalk.i64_in _ (by omega)
      have hkt : ((k : Int) + 1).toNat = k + 1 := by omega
      have hkn : (0 : Int) ≤ (k : Int) + 1 := by omega
      have hkl : k < NB := by omega
      obtain ⟨bb, ob, rfl, _, hcell⟩ := rdI_row HRB.out (by rw [HNB.out]; omega)
      have c0 := hcell k (by rw [HNB.out]; omega)
      have c1 := hcell (k + 1) (by rw [HNB.out]; omega)
      obtain ⟨x, hx⟩ : ∃ x, zat B k = x := ⟨_, rfl⟩
      obtain ⟨y, hy⟩ : ∃ y, zat B (k + 1) = y := ⟨_, rfl⟩
      rw [hx] at c0
      rw [hy] at c1
      have HXX := Lib.hid hx; have HYY := Lib.hid hy
      have HC0 := Lib.hid c0; have HC1 := Lib.hid c1
      have d0 := cell_on HI.out.2 c0
      have d1 := cell_on HI.out.2 c1
      have hML := mk_len f (zat B) k
      obtain ⟨M, hMM⟩ : ∃ M, mkA f (zat B) k = M := ⟨_, rfl⟩
      have HMk := Lib.hid hMM
      rw [hMM] at HI hML
      have HML : Hid (M.length ≤ 4000) := Lib.hid (by omega)
      have HAW := Lib.hid (HA.out.kept (HE1.out.trans (HI.out.2.mono HE1.out.size)))
      have HBW2 := Lib.hid (HB.out.kept (HE1.out.trans (HI.out.2.mono HE1.out.size)))
      have hFk : f k = kindF 1 a b x := by rw [← HFF.out, ← HXX.out]
      clear hcell hx hy c0 c1 hMM hML
      go_wp2_with fail
      refine (dhas_any va a x wr HAW.out (by omega)).mono ?_
      rintro e wr' ⟨rfl, rfl⟩
      obtain ⟨fa, hfa⟩ : ∃ v, hasL a x = v := ⟨_, rfl⟩
      rw [hfa]
      cases fa
      · have hFk : f k = false := by rw [hFk]; unfold kindF; rw [hfa]; simp
        have HF := Lib.hid hFk
        clear hFk hfa
        go_wp2_with fail
        go_roundg (NB - (k + 1))
        case rel => exact ⟨k + 1, by omega, rfl, by go_num, Lib.hid (by rw [mk_no HF.out, HMk.out]; exact HI.out)⟩
        case measure => omega
      · skip
        go_wp2_with fail
        refine (dhas_any vb b x wr HBW2.out (by omega)).mono ?_
        rintro e wr' ⟨rfl, rfl⟩
        obtain ⟨fb, hfb⟩ : ∃ v, hasL b x = v := ⟨_, rfl⟩
        rw [hfb]
        have hFk : f k = fb := by rw [hFk]; unfold kindF; rw [hfa, hfb]; simp
        clear hfa hfb
        cases fb
        · have HF : Hid (f k = false) := Lib.hid hFk
          clear hFk
          go_wp2_with fail
          go_roundg (NB - (k + 1))
          case rel => exact ⟨k + 1, by omega, rfl, by go_num, Lib.hid (by rw [mk_no HF.out, HMk.out]; exact HI.out)⟩
          case measure => omega
        · have HF : Hid (f k = true) := Lib.hid hFk
          clear hFk
          rcases List.eq_nil_or_concat M with hM | ⟨M', pq, hM⟩
          · subst hM
            simp only [List.length_nil, rowM_zero] at HI
            obtain ⟨g0, cap0, rfl⟩ := ownM_slice HI.out.1
            have HS := Lib.hid (And.intro (cell_on (HI.out.2).drew HC0.out) (cell_on (HI.out.2).drew HC1.out))
            go_wp2_with fail
            refine wp_region_held_drew (S := (fun X : World => X.cell? ⟨bb, ob + k, none⟩ = some (.int .i64 x) ∧ X.cell? ⟨bb, ob + (k + 1), none⟩ = some (.int .i64 y))) (by kernel_rfl) HS.out (fun hHeld => ?_)
            clear hHeld
            refine wpAnyH_take (i := 0) (v := ?_) rfl (by kernel_rfl) (by kernel_rfl) (by kernel_rfl) (fun _ _ _ h => h) (Or.inl ⟨by rfl, ?_⟩) HS.out ?_
            rotate_left
            · (intro wS hSw; (try dsimp only at hSw); go_simp; try with_reducible rfl)
            simp only [Act.put, List.getElem_toArray, List.getElem_cons_zero, List.getElem_cons_succ, List.setIfInBounds_toArray, List.set_cons_zero, List.set_cons_succ]
            refine wpAnyH_take (i := 1) (v := ?_) rfl (by kernel_rfl) (by kernel_rfl) (by kernel_rfl) (fun _ _ _ h => h) (Or.inl ⟨by rfl, ?_⟩) HS.out ?_
            rotate_left
            · (intro wS hSw; (try dsimp only at hSw); go_simp; try with_reducible rfl)
            simp only [Act.put, List.getElem_toArray, List.getElem_cons_zero, List.getElem_cons_succ, List.setIfInBounds_toArray, List.set_cons_zero, List.set_cons_succ]
            refine wpAnyH_take (i := 2) (v := ?_) rfl (by kernel_rfl) (by kernel_rfl) (by kernel_rfl) (fun _ _ _ h => h) (Or.inl ⟨by rfl, ?_⟩) HS.out ?_
            rotate_left
            · (intro wS hSw; (try dsimp only at hSw); go_simp; try with_reducible rfl)
            simp only [Act.put, List.getElem_toArray, List.getElem_cons_zero, List.getElem_cons_succ, List.setIfInBounds_toArray, List.set_cons_zero, List.set_cons_succ]
            refine wpAnyH_take (i := 3) (v := undef) rfl (by kernel_rfl) (by kernel_rfl) (by kernel_rfl) (fun _ _ _ h => h) (Or.inr ⟨by kernel_rfl, rfl⟩) HS.out ?_
            simp only [Act.put, List.getElem_toArray, List.getElem_cons_zero, List.getElem_cons_succ, List.setIfInBounds_toArray, List.set_cons_zero, List.set_cons_succ]
            refine wpAnyH_take (i := 4) (v := undef) rfl (by kernel_rfl) (by kernel_rfl) (by kernel_rfl) (fun _ _ _ h => h) (Or.inr ⟨by kernel_rfl, rfl⟩) HS.out ?_
            simp only [Act.put, List.getElem_toArray, List.getElem_cons_zero, List.getElem_cons_succ, List.setIfInBounds_toArray, List.set_cons_zero, List.set_cons_succ]
            refine wpAnyH_take (i := 5) (v := undef) rfl (by kernel_rfl) (by kernel_rfl) (by kernel_rfl) (fun _ _ _ h => h) (Or.inr ⟨by kernel_rfl, rfl⟩) HS.out ?_
            simp only [Act.put, List.getElem_toArray, List.getElem_cons_zero, List.getElem_cons_succ, List.setIfInBounds_toArray, List.set_cons_zero, List.set_cons_succ]
            refine wpAnyH_take (i := 6) (v := undef) rfl (by kernel_rfl) (by kernel_rfl) (by kernel_rfl) (fun _ _ _ h => h) (Or.inr ⟨by kernel_rfl, rfl⟩) HS.out ?_
            simp only [Act.put, List.getElem_toArray, List.getElem_cons_zero, List.getElem_cons_succ, List.setIfInBounds_toArray, List.set_cons_zero, List.set_cons_succ]
            refine wpAnyH_take (i := 7) (v := undef) rfl (by kernel_rfl) (by kernel_rfl) (by kernel_rfl) (fun _ _ _ h => h) (Or.inr ⟨by kernel_rfl, rfl⟩) HS.out ?_
            simp only [Act.put, List.getElem_toArray, List.getElem_cons_zero, List.getElem_cons_succ, List.setIfInBounds_toArray, List.set_cons_zero, List.set_cons_succ]
            refine wpAnyH_take (i := 8) (v := undef) rfl (by kernel_rfl) (by kernel_rfl) (by kernel_rfl) (fun _ _ _ h => h) (Or.inr ⟨by kernel_rfl, rfl⟩) HS.out ?_
            simp only [Act.put, List.getElem_toArray, List.getElem_cons_zero, List.getElem_cons_succ, List.setIfInBounds_toArray, List.set_cons_zero, List.set_cons_succ]
            refine wpAnyH_take (i := 9) (v := undef) rfl (by kernel_rfl) (by kernel_rfl) (by kernel_rfl) (fun _ _ _ h => h) (Or.inr ⟨by kernel_rfl, rfl⟩) HS.out ?_
            simp only [Act.put, List.getElem_toArray, List.getElem_cons_zero, List.getElem_cons_succ, List.setIfInBounds_toArray, List.set_cons_zero, List.set_cons_succ]
            refine wpAnyH_take (i := 10) (v := undef) rfl (by kernel_rfl) (by kernel_rfl) (by kernel_rfl) (fun _ _ _ h => h) (Or.inr ⟨by kernel_rfl, rfl⟩) HS.out ?_
            simp only [Act.put, List.getElem_toArray, List.getElem_cons_zero, List.getElem_cons_succ, List.setIfInBounds_toArray, List.set_cons_zero, List.set_cons_succ]
            refine wpAnyH_take (i := 11) (v := undef) rfl (by kernel_rfl) (by kernel_rfl) (by kernel_rfl) (fun _ _ _ h => h) (Or.inr ⟨by kernel_rfl, rfl⟩) HS.out ?_
            simp only [Act.put, List.getElem_toArray, List.getElem_cons_zero, List.getElem_cons_succ, List.setIfInBounds_toArray, List.set_cons_zero, List.set_cons_succ]
            refine wpAnyH_take (i := 12) (v := undef) rfl (by kernel_rfl) (by kernel_rfl) (by kernel_rfl) (fun _ _ _ h => h) (Or.inr ⟨by kernel_rfl, rfl⟩) HS.out ?_
            simp only [Act.put, List.getElem_toArray, List.getElem_cons_zero, List.getElem_cons_succ, List.setIfInBounds_toArray, List.set_cons_zero, List.set_cons_succ]
            refine wpAnyH_take (i := 13) (v := undef) rfl (by kernel_rfl) (by kernel_rfl) (by kernel_rfl) (fun _ _ _ h => h) (Or.inr ⟨by kernel_rfl, rfl⟩) HS.out ?_
            simp only [Act.put, List.getElem_toArray, List.getElem_cons_zero, List.getElem_cons_succ, List.setIfInBounds_toArray, List.set_cons_zero, List.set_cons_succ]
            refine wpAnyH_take (i := 14) (v := ?_) rfl (by kernel_rfl) (by kernel_rfl) (by kernel_rfl) (fun _ _ _ h => h) (Or.inl ⟨by rfl, ?_⟩) HS.out ?_
            rotate_left
            · (intro wS hSw; (try dsimp only at hSw); go_simp; try with_reducible rfl)
            simp only [Act.put, List.getElem_toArray, List.getElem_cons_zero, List.getElem_cons_succ, List.setIfInBounds_toArray, List.set_cons_zero, List.set_cons_succ]
            refine wpAnyH_done (by kernel_rfl) ?_ _
            go_wp2_with fail
            obtain ⟨ov, hov⟩ : ∃ v, Value.slice g0 0 cap0 = v := ⟨_, rfl⟩
            rw [hov] at HI
            try rw [hov]
            clear hov
            obtain ⟨WW, hWW⟩ : ∃ X, wr.drew = X := ⟨_, rfl⟩
            have HWW : Hid (Below W1.heap.size W1 WW) := Lib.hid (by rw [← hWW]; exact HI.out.2.drew)
            have HOW : Hid (WW.ownsRow W1.heap.size 26 2 ov 0 []) := Lib.hid (by rw [← hWW]; exact ownM_below HI.out.1 (Below.refl _ _).drew)
            try rw [hWW]
            clear hWW
            have HSD : Hid (WW.drew.cell? ⟨bb, ob + k, none⟩ = some (.int .i64 x) ∧ WW.drew.cell? ⟨bb, ob + (k + 1), none⟩ = some (.int .i64 y)) := Lib.hid ⟨cell_on HWW.out.drew HC0.out, cell_on HWW.out.drew HC1.out⟩
            have HSE := HSD
            have hb2 : Below WW.heap.size WW ((WW.alloc (.cells #[.int .i64 x, .int .i64 y] 26)).drew) := ((Below.refl WW.heap.size WW).alloc (Nat.le_refl _) _).drew
            have HX2 : Hid (Below W1.heap.size W1 ((WW.alloc (.cells #[.int .i64 x, .int .i64 y] 26)).drew)) := Lib.hid (HWW.out.trans (hb2.mono HWW.out.size))
            have HS2 : Hid (((WW.alloc (.cells #[.int .i64 x, .int .i64 y] 26)).drew).cell? ⟨bb, ob + k, none⟩ = some (.int .i64 x) ∧ ((WW.alloc (.cells #[.int .i64 x, .int .i64 y] 26)).drew).cell? ⟨bb, ob + (k + 1), none⟩ = some (.int .i64 y)) := Lib.hid ⟨cell_on HX2.out HC0.out, cell_on HX2.out HC1.out⟩
            have HO2 := Lib.hid (ownM_below HOW.out hb2)
            have HG2 : Hid (Blk ((WW.alloc (.cells #[.int .i64 x, .int .i64 y] 26)).drew) WW.heap.size 26 #[.int .i64 x, .int .i64 y]) := Lib.hid (Blk.new WW _ _)
            clear hb2
            refine wp_region_held_drew (S := (fun X : World => X.cell? ⟨bb, ob + k, none⟩ = some (.int .i64 x) ∧ X.cell? ⟨bb, ob + (k + 1), none⟩ = some (.int .i64 y))) (by kernel_rfl) HSD.out (fun hHeld => ?_)
            clear hHeld
            refine wpAnyH_take (i := 0) (v := ?_) rfl (by kernel_rfl) (by kernel_rfl) (by kernel_rfl) (fun _ _ _ h => h) (Or.inl ⟨by rfl, ?_⟩) HSE.out ?_
            rotate_left
            · (intro wS hSw; (try dsimp only at hSw); go_simp; try with_reducible rfl)
            simp only [Act.put, List.getElem_toArray, List.getElem_cons_zero, List.getElem_cons_succ, List.setIfInBounds_toArray, List.set_cons_zero, List.set_cons_succ]
            refine wpAnyH_take (i := 1) (v := ?_) rfl (by kernel_rfl) (by kernel_rfl) (by kernel_rfl) (fun _ _ _ h => h) (Or.inl ⟨by rfl, ?_⟩) HSE.out ?_
            rotate_left
            · (intro wS hSw; (try dsimp only at hSw); go_simp; try with_reducible rfl)
            simp only [Act.put, List.getElem_toArray, List.getElem_cons_zero, List.getElem_cons_succ, List.setIfInBounds_toArray, List.set_cons_zero, List.set_cons_succ]
            refine wpAnyH_take (i := 2) (v := ?_) rfl (by kernel_rfl) (by kernel_rfl) (by kernel_rfl) (fun _ _ _ h => h) (Or.inl ⟨by rfl, ?_⟩) HSE.out ?_
            rotate_left
            · (intro wS hSw; (try dsimp only at hSw); go_simp; try with_reducible rfl)
            simp only [Act.put, List.getElem_toArray, List.getElem_cons_zero, List.getElem_cons_succ, List.setIfInBounds_toArray, List.set_cons_zero, List.set_cons_succ]
            refine wpAnyH_take (i := 3) (v := ?_) rfl (by kernel_rfl) (by kernel_rfl) (by kernel_rfl) (fun _ _ _ h => h) (Or.inl ⟨by rfl, ?_⟩) HSE.out ?_
            rotate_left
            · (intro wS hSw; (try dsimp only at hSw); go_simp; try with_reducible rfl)
            simp only [Act.put, List.getElem_toArray, List.getElem_cons_zero, List.getElem_cons_succ, List.setIfInBounds_toArray, List.set_cons_zero, List.set_cons_succ]
            refine wpAnyH_take (i := 4) (v := ?_) rfl (by kernel_rfl) (by kernel_rfl) (by kernel_rfl) (fun _ _ _ h => h) (Or.inl ⟨by rfl, ?_⟩) HSE.out ?_
            rotate_left
            · (intro wS hSw; (try dsimp only at hSw); go_simp; try with_reducible rfl)
            simp only [Act.put, List.getElem_toArray, List.getElem_cons_zero, List.getElem_cons_succ, List.setIfInBounds_toArray, List.set_cons_zero, List.set_cons_succ]
            refine wpAnyH_take (i := 5) (v := ?_) rfl (by kernel_rfl) (by kernel_rfl) (by kernel_rfl) (fun _ _ _ h => h) (Or.inl ⟨by rfl, ?_⟩) HSE.out ?_
            rotate_left
            · (intro wS hSw; (try dsimp only at hSw); go_simp; try with_reducible rfl)
            simp only [Act.put, List.getElem_toArray, List.getElem_cons_zero, List.getElem_cons_succ, List.setIfInBounds_toArray, List.set_cons_zero, List.set_cons_succ]
            refine wpAnyH_take (i := 6) (v := ?_) rfl (by kernel_rfl) (by kernel_rfl) (by kernel_rfl) (fun _ _ _ h => h) (Or.inl ⟨by rfl, ?_⟩) HSE.out ?_
            rotate_left
            · (intro wS hSw; (try dsimp only at hSw); go_simp; try with_reducible rfl)
            simp only [Act.put, List.getElem_toArray, List.getElem_cons_zero, List.getElem_cons_succ, List.setIfInBounds_toArray, List.set_cons_zero, List.set_cons_succ]
            refine wpAnyH_take (i := 7) (v := ?_) rfl (by kernel_rfl) (by kernel_rfl) (by kernel_rfl) (fun _ _ _ h => h) (Or.inl ⟨by rfl, ?_⟩) HSE.out ?_
            rotate_left
            · (intro wS hSw; (try dsimp only at hSw); go_simp; try with_reducible rfl)
            simp only [Act.put, List.getElem_toArray, List.getElem_cons_zero, List.getElem_cons_succ, List.setIfInBounds_toArray, List.set_cons_zero, List.set_cons_succ]
            refine wpAnyH_take (i := 8) (v := ?_) rfl (by kernel_rfl) (by kernel_rfl) (by kernel_rfl) (fun _ _ _ h => h) (Or.inl ⟨by rfl, ?_⟩) HSE.out ?_
            rotate_left
            · (intro wS hSw; (try dsimp only at hSw); go_simp; try with_reducible rfl)
            simp only [Act.put, List.getElem_toArray, List.getElem_cons_zero, List.getElem_cons_succ, List.setIfInBounds_toArray, List.set_cons_zero, List.set_cons_succ]
            refine wpAnyH_take (i := 9) (v := ?_) rfl (by kernel_rfl) (by kernel_rfl) (by kernel_rfl) (fun _ _ _ h => h) (Or.inl ⟨by rfl, ?_⟩) HSE.out ?_
            rotate_left
            · (intro wS hSw; (try dsimp only at hSw); go_simp; try with_reducible rfl)
            simp only [Act.put, List.getElem_toArray, List.getElem_cons_zero, List.getElem_cons_succ, List.setIfInBounds_toArray, List.set_cons_zero, List.set_cons_succ]
            refine wpAnyH_take (i := 10) (v := ?_) rfl (by kernel_rfl) (by kernel_rfl) (by kernel_rfl) (fun _ _ _ h => h) (Or.inl ⟨by rfl, ?_⟩) HSE.out ?_
            rotate_left
            · (intro wS hSw; (try dsimp only at hSw); go_simp; try with_reducible rfl)
            simp only [Act.put, List.getElem_toArray, List.getElem_cons_zero, List.getElem_cons_succ, List.setIfInBounds_toArray, List.set_cons_zero, List.set_cons_succ]
            refine wpAnyH_ready (rs := [11]) (by kernel_rfl) (by simp) ?_
            refine AllReadyH.cons rfl (fun K hK => ?_) AllReadyH.nil
            go_simp
            refine hK.out _ _ HS2.out (fun hHeld => ?_)
            clear hK K hHeld
            try simp only [Act.put, List.getElem_toArray, List.getElem_cons_zero, List.getElem_cons_succ, List.setIfInBounds_toArray, List.set_cons_zero, List.set_cons_succ]
            refine wpAnyH_ready (rs := [12]) (by kernel_rfl) (by simp) ?_
            refine AllReadyH.cons rfl (fun K hK => ?_) AllReadyH.nil
            refine step_span (by rfl) _ _ (by rfl) W1.heap.size ov 0 [] (by rfl) HO2.out WW.heap.size 1 x y (by rfl) HG2.out (by have := HML.out; omega) (by have := HWW.out.size; simp; omega) ?_
            intro v3 u3 p3 q3
            have HB3 : Hid (Below W1.heap.size W1 u3) := Lib.hid (HX2.out.trans q3)
            have HS3 : Hid (u3.cell? ⟨bb, ob + k, none⟩ = some (.int .i64 x) ∧ u3.cell? ⟨bb, ob + (k + 1), none⟩ = some (.int .i64 y)) := Lib.hid ⟨cell_on HB3.out HC0.out, cell_on HB3.out HC1.out⟩
            have HP3 := Lib.hid p3
            clear p3 q3
            refine hK.out _ _ HS3.out (fun hHeld => ?_)
            clear hK K hHeld
            try simp only [Act.put, List.getElem_toArray, List.getElem_cons_zero, List.getElem_cons_succ, List.setIfInBounds_toArray, List.set_cons_zero, List.set_cons_succ]
            refine wpAnyH_take (i := 13) (v := ?_) rfl (by kernel_rfl) (by kernel_rfl) (by kernel_rfl) (fun _ _ _ h => h) (Or.inl ⟨by rfl, ?_⟩) HS3.out ?_
            rotate_left
            · (intro wS hSw; (try dsimp only at hSw); go_simp; try with_reducible rfl)
            simp only [Act.put, List.getElem_toArray, List.getElem_cons_zero, List.getElem_cons_succ, List.setIfInBounds_toArray, List.set_cons_zero, List.set_cons_succ]
            refine wpAnyH_done (by kernel_rfl) ?_ _
            go_wp2_with fail
            go_roundg (NB - (k + 1))
            case rel => exact ⟨k + 1, by omega, rfl, by go_num, Lib.hid ⟨by
                have e1 : mkA f (zat B) (k + 1) = [] ++ [(x, y)] := by rw [mk_new HF.out (fun L p e => by rw [HMk.out] at e; simp at e), HMk.out, HXX.out, HYY.out]
                rw [e1, ← rowS_push, List.length_nil, rowM_zero]
                exact HP3.out, HB3.out⟩⟩
            case measure => omega
          · rw [List.concat_eq_append] at hM
            obtain ⟨p, q⟩ := pq
            subst hM
            have hml : (M' ++ [(p, q)]).length = M'.length + 1 := by simp
            rw [hml] at HI
            obtain ⟨go, cap0, rfl, hgo, hcap⟩ := ownM_head HI.out.1 (by omega)
            have hHML := HML.out
            rw [hml] at hHML
            have cq := ownM_at HI.out.1 (i := M'.length) (j := 1) (by omega) (by omega)
            rw [zS_last] at cq
            have cqf := HI.out.1.frozenAt (M'.length * 2 + 1)
            have HS := Lib.hid (And.intro (cell_on (HI.out.2).drew HC0.out) (cell_on (HI.out.2).drew HC1.out))
            have HS9 := Lib.hid (And.intro (cell_on (HI.out.2).drew HC0.out) (And.intro (cell_on (HI.out.2).drew HC1.out) (cell_on ((Below.refl wr.heap.size wr).drew) cq)))
            have hm1 : ((M'.length + 1 : Nat) : Int) - 1 = (M'.length : Int) := by omega
            have hm2 : (0 : Int) < ((M'.length + 1 : Nat) : Int) := by omega
            have hm3 : (M'.length : Int) + 1 - 1 = (M'.length : Int) := by omega
            have hm4 : IntKind.i64.wrap (M'.length : Int) = (M'.length : Int) := IntWalk.i64_in _ (by omega)
            have hm5 : (M'.length : Int) < (M'.length : Int) + 1 := by omega
            have HCQ := Lib.hid cq
            clear cq
            by_cases hqx : q = x
            · have hqx' : x = q := hqx.symm
              subst hqx'
              go_wp2_with fail
              refine wp_region_held_drew (S := (fun X : World => X.cell? ⟨bb, ob + k, none⟩ = some (.int .i64 x) ∧ X.cell? ⟨bb, ob + (k + 1), none⟩ = some (.int .i64 y) ∧ X.cell? ⟨go, M'.length * 2 + 1, none⟩ = some (.int .i64 x))) (by kernel_rfl) HS9.out (fun hHeld => ?_)
              clear hHeld
              refine wpAnyH_take (i := 0) (v := ?_) rfl (by kernel_rfl) (by kernel_rfl) (by kernel_rfl) (fun _ _ _ h => h) (Or.inl ⟨by rfl, ?_⟩) HS9.out ?_
              rotate_left
              · (intro wS hSw; (try dsimp only at hSw); go_simp; try with_reducible rfl)
              simp only [Act.put, List.getElem_toArray, List.getElem_cons_zero, List.getElem_cons_succ, List.setIfInBounds_toArray, List.set_cons_zero, List.set_cons_succ]
              refine wpAnyH_take (i := 1) (v := ?_) rfl (by kernel_rfl) (by kernel_rfl) (by kernel_rfl) (fun _ _ _ h => h) (Or.inl ⟨by rfl, ?_⟩) HS9.out ?_
              rotate_left
              · (intro wS hSw; (try dsimp only at hSw); go_simp; try with_reducible rfl)
              simp only [Act.put, List.getElem_toArray, List.getElem_cons_zero, List.getElem_cons_succ, List.setIfInBounds_toArray, List.set_cons_zero, List.set_cons_succ]
              refine wpAnyH_take (i := 2) (v := ?_) rfl (by kernel_rfl) (by kernel_rfl) (by kernel_rfl) (fun _ _ _ h => h) (Or.inl ⟨by rfl, ?_⟩) HS9.out ?_
              rotate_left
              · (intro wS hSw; (try dsimp only at hSw); go_simp; try with_reducible rfl)
              simp only [Act.put, List.getElem_toArray, List.getElem_cons_zero, List.getElem_cons_succ, List.setIfInBounds_toArray, List.set_cons_zero, List.set_cons_succ]
              refine wpAnyH_take (i := 3) (v := ?_) rfl (by kernel_rfl) (by kernel_rfl) (by kernel_rfl) (fun _ _ _ h => h) (Or.inl ⟨by rfl, ?_⟩) HS9.out ?_
              rotate_left
              · (intro wS hSw; (try dsimp only at hSw); go_simp; try with_reducible rfl)
              simp only [Act.put, List.getElem_toArray, List.getElem_cons_zero, List.getElem_cons_succ, List.setIfInBounds_toArray, List.set_cons_zero, List.set_cons_succ]
              refine wpAnyH_take (i := 4) (v := ?_) rfl (by kernel_rfl) (by kernel_rfl) (by kernel_rfl) (fun _ _ _ h => h) (Or.inl ⟨by rfl, ?_⟩) HS9.out ?_
              rotate_left
              · (intro wS hSw; (try dsimp only at hSw); go_simp; try with_reducible rfl)
              simp only [Act.put, List.getElem_toArray, List.getElem_cons_zero, List.getElem_cons_succ, List.setIfInBounds_toArray, List.set_cons_zero, List.set_cons_succ]
              refine wpAnyH_take (i := 5) (v := ?_) rfl (by kernel_rfl) (by kernel_rfl) (by kernel_rfl) (fun _ _ _ h => h) (Or.inl ⟨by rfl, ?_⟩) HS9.out ?_
              rotate_left
              · (intro wS hSw; (try dsimp only at hSw); go_simp; try with_reducible rfl)
              simp only [Act.put, List.getElem_toArray, List.getElem_cons_zero, List.getElem_cons_succ, List.setIfInBounds_toArray, List.set_cons_zero, List.set_cons_succ]
              refine wpAnyH_take (i := 6) (v := ?_) rfl (by kernel_rfl) (by kernel_rfl) (by kernel_rfl) (fun _ _ _ h => h) (Or.inl ⟨by rfl, ?_⟩) HS9.out ?_
              rotate_left
              · (intro wS hSw; (try dsimp only at hSw); go_simp; try with_reducible rfl)
              simp only [Act.put, List.getElem_toArray, List.getElem_cons_zero, List.getElem_cons_succ, List.setIfInBounds_toArray, List.set_cons_zero, List.set_cons_succ]
              refine wpAnyH_take (i := 7) (v := ?_) rfl (by kernel_rfl) (by kernel_rfl) (by kernel_rfl) (fun _ _ _ h => h) (Or.inl ⟨by rfl, ?_⟩) HS9.out ?_
              rotate_left
              · (intro wS hSw; (try dsimp only at hSw); go_simp; try with_reducible rfl)
              simp only [Act.put, List.getElem_toArray, List.getElem_cons_zero, List.getElem_cons_succ, List.setIfInBounds_toArray, List.set_cons_zero, List.set_cons_succ]
              refine wpAnyH_take (i := 8) (v := ?_) rfl (by kernel_rfl) (by kernel_rfl) (by kernel_rfl) (fun _ _ _ h => h) (Or.inl ⟨by rfl, ?_⟩) HS9.out ?_
              rotate_left
              · (intro wS hSw; (try dsimp only at hSw); go_simp; try with_reducible rfl)
              simp only [Act.put, List.getElem_toArray, List.getElem_cons_zero, List.getElem_cons_succ, List.setIfInBounds_toArray, List.set_cons_zero, List.set_cons_succ]
              refine wpAnyH_take (i := 9) (v := ?_) rfl (by kernel_rfl) (by kernel_rfl) (by kernel_rfl) (fun _ _ _ h => h) (Or.inl ⟨by rfl, ?_⟩) HS9.out ?_
              rotate_left
              · (intro wS hSw; (try dsimp only at hSw); go_simp; try with_reducible rfl)
              simp only [Act.put, List.getElem_toArray, List.getElem_cons_zero, List.getElem_cons_succ, List.setIfInBounds_toArray, List.set_cons_zero, List.set_cons_succ]
              refine wpAnyH_take (i := 10) (v := ?_) rfl (by kernel_rfl) (by kernel_rfl) (by kernel_rfl) (fun _ _ _ h => h) (Or.inl ⟨by rfl, ?_⟩) HS9.out ?_
              rotate_left
              · (intro wS hSw; (try dsimp only at hSw); go_simp; try with_reducible rfl)
              simp only [Act.put, List.getElem_toArray, List.getElem_cons_zero, List.getElem_cons_succ, List.setIfInBounds_toArray, List.set_cons_zero, List.set_cons_succ]
              refine wpAnyH_take (i := 11) (v := ?_) rfl (by kernel_rfl) (by kernel_rfl) (by kernel_rfl) (fun _ _ _ h => h) (Or.inl ⟨by rfl, ?_⟩) HS9.out ?_
              rotate_left
              · (intro wS hSw; (try dsimp only at hSw); go_simp; try with_reducible rfl)
              simp only [Act.put, List.getElem_toArray, List.getElem_cons_zero, List.getElem_cons_succ, List.setIfInBounds_toArray, List.set_cons_zero, List.set_cons_succ]
              refine wpAnyH_take (i := 12) (v := ?_) rfl (by kernel_rfl) (by kernel_rfl) (by kernel_rfl) (fun _ _ _ h => h) (Or.inl ⟨by rfl, ?_⟩) HS9.out ?_
              rotate_left
              · (intro wS hSw; (try dsimp only at hSw); go_simp; try with_reducible rfl)
              simp only [Act.put, List.getElem_toArray, List.getElem_cons_zero, List.getElem_cons_succ, List.setIfInBounds_toArray, List.set_cons_zero, List.set_cons_succ]
              refine wpAnyH_take (i := 13) (v := ?_) rfl (by kernel_rfl) (by kernel_rfl) (by kernel_rfl) (fun _ _ _ h => h) (Or.inl ⟨by rfl, ?_⟩) HS9.out ?_
              rotate_left
              · (intro wS hSw; (try dsimp only at hSw); go_simp; try with_reducible rfl)
              simp only [Act.put, List.getElem_toArray, List.getElem_cons_zero, List.getElem_cons_succ, List.setIfInBounds_toArray, List.set_cons_zero, List.set_cons_succ]
              refine wpAnyH_take (i := 14) (v := ?_) rfl (by kernel_rfl) (by kernel_rfl) (by kernel_rfl) (fun _ _ _ h => h) (Or.inl ⟨by rfl, ?_⟩) HS9.out ?_
              rotate_left
              · (intro wS hSw; (try dsimp only at hSw); go_simp; try with_reducible rfl)
              simp only [Act.put, List.getElem_toArray, List.getElem_cons_zero, List.getElem_cons_succ, List.setIfInBounds_toArray, List.set_cons_zero, List.set_cons_succ]
              refine wpAnyH_done (by kernel_rfl) ?_ _
              obtain ⟨WW, hWW⟩ : ∃ X, wr.drew = X := ⟨_, rfl⟩
              have s0 : WW.cell? ⟨go, M'.length * 2 + 1, none⟩ = some (.int .i64 x) := by rw [← hWW]; exact HCQ.out
              have s1 : WW.frozen? ⟨go, M'.length * 2 + 1, none⟩ = false := by rw [← hWW]; exact cqf
              have s2 : WW.cell? ⟨bb, ob + (k + 1), none⟩ = some (.int .i64 y) := by rw [← hWW]; exact HS.out.2
              have HOW := Lib.hid (ownM_below HI.out.1 (Below.refl wr.heap.size wr).drew)
              have HWW : Hid (Below W1.heap.size W1 wr.drew) := Lib.hid HI.out.2.drew
              rw [hWW] at HOW HWW
              try rw [hWW]
              clear hWW cqf
              go_wp2_with fail
              go_roundg (NB - (k + 1))
              case rel => exact ⟨k + 1, by omega, rfl, by go_num, Lib.hid ⟨by
                rw [mk_old (L := M') (a := p) HF.out (by rw [HMk.out, HXX.out]), HYY.out, List.length_append]
                have := ownM_put HOW.out (i := M'.length) (j := 1) (by omega) y
                rw [rowS_last] at this
                exact this, HWW.out.setCell (p := ⟨go, M'.length * 2 + 1, none⟩) hgo _⟩⟩
              case measure => omega
            · have hne : (q == x) = false := by rw [beq_eq_false_iff_ne]; exact hqx
              go_wp2_with fail
              refine wp_region_held_drew (S := (fun X : World => X.cell? ⟨bb, ob + k, none⟩ = some (.int .i64 x) ∧ X.cell? ⟨bb, ob + (k + 1), none⟩ = some (.int .i64 y) ∧ X.cell? ⟨go, M'.length * 2 + 1, none⟩ = some (.int .i64 q))) (by kernel_rfl) HS9.out (fun hHeld => ?_)
              clear hHeld
              refine wpAnyH_take (i := 0) (v := ?_) rfl (by kernel_rfl) (by kernel_rfl) (by kernel_rfl) (fun _ _ _ h => h) (Or.inl ⟨by rfl, ?_⟩) HS9.out ?_
              rotate_left
              · (intro wS hSw; (try dsimp only at hSw); go_simp; try with_reducible rfl)
              simp only [Act.put, List.getElem_toArray, List.getElem_cons_zero, List.getElem_cons_succ, List.setIfInBounds_toArray, List.set_cons_zero, List.set_cons_succ]
              refine wpAnyH_take (i := 1) (v := ?_) rfl (by kernel_rfl) (by kernel_rfl) (by kernel_rfl) (fun _ _ _ h => h) (Or.inl ⟨by rfl, ?_⟩) HS9.out ?_
              rotate_left
              · (intro wS hSw; (try dsimp only at hSw); go_simp; try with_reducible rfl)
              simp only [Act.put, List.getElem_toArray, List.getElem_cons_zero, List.getElem_cons_succ, List.setIfInBounds_toArray, List.set_cons_zero, List.set_cons_succ]
              refine wpAnyH_take (i := 2) (v := ?_) rfl (by kernel_rfl) (by kernel_rfl) (by kernel_rfl) (fun _ _ _ h => h) (Or.inl ⟨by rfl, ?_⟩) HS9.out ?_
              rotate_left
              · (intro wS hSw; (try dsimp only at hSw); go_simp; try with_reducible rfl)
              simp only [Act.put, List.getElem_toArray, List.getElem_cons_zero, List.getElem_cons_succ, List.setIfInBounds_toArray, List.set_cons_zero, List.set_cons_succ]
              refine wpAnyH_take (i := 3) (v := ?_) rfl (by kernel_rfl) (by kernel_rfl) (by kernel_rfl) (fun _ _ _ h => h) (Or.inl ⟨by rfl, ?_⟩) HS9.out ?_
              rotate_left
              · (intro wS hSw; (try dsimp only at hSw); go_simp; try with_reducible rfl)
              simp only [Act.put, List.getElem_toArray, List.getElem_cons_zero, List.getElem_cons_succ, List.setIfInBounds_toArray, List.set_cons_zero, List.set_cons_succ]
              refine wpAnyH_take (i := 4) (v := ?_) rfl (by kernel_rfl) (by kernel_rfl) (by kernel_rfl) (fun _ _ _ h => h) (Or.inl ⟨by rfl, ?_⟩) HS9.out ?_
              rotate_left
              · (intro wS hSw; (try dsimp only at hSw); go_simp; try with_reducible rfl)
              simp only [Act.put, List.getElem_toArray, List.getElem_cons_zero, List.getElem_cons_succ, List.setIfInBounds_toArray, List.set_cons_zero, List.set_cons_succ]
              refine wpAnyH_take (i := 5) (v := ?_) rfl (by kernel_rfl) (by kernel_rfl) (by kernel_rfl) (fun _ _ _ h => h) (Or.inl ⟨by rfl, ?_⟩) HS9.out ?_
              rotate_left
              · (intro wS hSw; (try dsimp only at hSw); go_simp; try with_reducible rfl)
              simp only [Act.put, List.getElem_toArray, List.getElem_cons_zero, List.getElem_cons_succ, List.setIfInBounds_toArray, List.set_cons_zero, List.set_cons_succ]
              refine wpAnyH_take (i := 6) (v := ?_) rfl (by kernel_rfl) (by kernel_rfl) (by kernel_rfl) (fun _ _ _ h => h) (Or.inl ⟨by rfl, ?_⟩) HS9.out ?_
              rotate_left
              · (intro wS hSw; (try dsimp only at hSw); go_simp; try with_reducible rfl)
              simp only [Act.put, List.getElem_toArray, List.getElem_cons_zero, List.getElem_cons_succ, List.setIfInBounds_toArray, List.set_cons_zero, List.set_cons_succ]
              refine wpAnyH_take (i := 7) (v := ?_) rfl (by kernel_rfl) (by kernel_rfl) (by kernel_rfl) (fun _ _ _ h => h) (Or.inl ⟨by rfl, ?_⟩) HS9.out ?_
              rotate_left
              · (intro wS hSw; (try dsimp only at hSw); go_simp; try with_reducible rfl)
              simp only [Act.put, List.getElem_toArray, List.getElem_cons_zero, List.getElem_cons_succ, List.setIfInBounds_toArray, List.set_cons_zero, List.set_cons_succ]
              refine wpAnyH_take (i := 8) (v := ?_) rfl (by kernel_rfl) (by kernel_rfl) (by kernel_rfl) (fun _ _ _ h => h) (Or.inl ⟨by rfl, ?_⟩) HS9.out ?_
              rotate_left
              · (intro wS hSw; (try dsimp only at hSw); go_simp; try with_reducible rfl)
              simp only [Act.put, List.getElem_toArray, List.getElem_cons_zero, List.getElem_cons_succ, List.setIfInBounds_toArray, List.set_cons_zero, List.set_cons_succ]
              refine wpAnyH_take (i := 9) (v := ?_) rfl (by kernel_rfl) (by kernel_rfl) (by kernel_rfl) (fun _ _ _ h => h) (Or.inl ⟨by rfl, ?_⟩) HS9.out ?_
              rotate_left
              · (intro wS hSw; (try dsimp only at hSw); go_simp; try with_reducible rfl)
              simp only [Act.put, List.getElem_toArray, List.getElem_cons_zero, List.getElem_cons_succ, List.setIfInBounds_toArray, List.set_cons_zero, List.set_cons_succ]
              refine wpAnyH_take (i := 10) (v := ?_) rfl (by kernel_rfl) (by kernel_rfl) (by kernel_rfl) (fun _ _ _ h => h) (Or.inl ⟨by rfl, ?_⟩) HS9.out ?_
              rotate_left
              · (intro wS hSw; (try dsimp only at hSw); go_simp; try with_reducible rfl)
              simp only [Act.put, List.getElem_toArray, List.getElem_cons_zero, List.getElem_cons_succ, List.setIfInBounds_toArray, List.set_cons_zero, List.set_cons_succ]
              refine wpAnyH_take (i := 11) (v := ?_) rfl (by kernel_rfl) (by kernel_rfl) (by kernel_rfl) (fun _ _ _ h => h) (Or.inl ⟨by rfl, ?_⟩) HS9.out ?_
              rotate_left
              · (intro wS hSw; (try dsimp only at hSw); go_simp; try with_reducible rfl)
              simp only [Act.put, List.getElem_toArray, List.getElem_cons_zero, List.getElem_cons_succ, List.setIfInBounds_toArray, List.set_cons_zero, List.set_cons_succ]
              refine wpAnyH_take (i := 12) (v := ?_) rfl (by kernel_rfl) (by kernel_rfl) (by kernel_rfl) (fun _ _ _ h => h) (Or.inl ⟨by rfl, ?_⟩) HS9.out ?_
              rotate_left
              · (intro wS hSw; (try dsimp only at hSw); go_simp; try with_reducible rfl)
              simp only [Act.put, List.getElem_toArray, List.getElem_cons_zero, List.getElem_cons_succ, List.setIfInBounds_toArray, List.set_cons_zero, List.set_cons_succ]
              refine wpAnyH_take (i := 13) (v := ?_) rfl (by kernel_rfl) (by kernel_rfl) (by kernel_rfl) (fun _ _ _ h => h) (Or.inl ⟨by rfl, ?_⟩) HS9.out ?_
              rotate_left
              · (intro wS hSw; (try dsimp only at hSw); go_simp; try with_reducible rfl)
              simp only [Act.put, List.getElem_toArray, List.getElem_cons_zero, List.getElem_cons_succ, List.setIfInBounds_toArray, List.set_cons_zero, List.set_cons_succ]
              refine wpAnyH_take (i := 14) (v := ?_) rfl (by kernel_rfl) (by kernel_rfl) (by kernel_rfl) (fun _ _ _ h => h) (Or.inl ⟨by rfl, ?_⟩) HS9.out ?_
              rotate_left
              · (intro wS hSw; (try dsimp only at hSw); go_simp; try with_reducible rfl)
              simp only [Act.put, List.getElem_toArray, List.getElem_cons_zero, List.getElem_cons_succ, List.setIfInBounds_toArray, List.set_cons_zero, List.set_cons_succ]
              refine wpAnyH_done (by kernel_rfl) ?_ _
              go_wp2_with fail
              obtain ⟨ov, hov⟩ : ∃ v, Value.slice (some ⟨go, 0, none⟩) (M'.length + 1) cap0 = v := ⟨_, rfl⟩
              rw [hov] at HI
              try rw [hov]
              clear hov
              obtain ⟨WW, hWW⟩ : ∃ X, wr.drew = X := ⟨_, rfl⟩
              have HWW : Hid (Below W1.heap.size W1 WW) := Lib.hid (by rw [← hWW]; exact HI.out.2.drew)
              have HOW : Hid (WW.ownsRow W1.heap.size 26 2 ov (M'.length + 1) (rowM 2 (zS (M' ++ [(p, q)])) (M'.length + 1))) := Lib.hid (by rw [← hWW]; exact ownM_below HI.out.1 (Below.refl _ _).drew)
              try rw [hWW]
              clear hWW
              have HSD : Hid (WW.drew.cell? ⟨bb, ob + k, none⟩ = some (.int .i64 x) ∧ WW.drew.cell? ⟨bb, ob + (k + 1), none⟩ = some (.int .i64 y)) := Lib.hid ⟨cell_on HWW.out.drew HC0.out, cell_on HWW.out.drew HC1.out⟩
              have HSE := HSD
              have hb2 : Below WW.heap.size WW ((WW.alloc (.cells #[.int .i64 x, .int .i64 y] 26)).drew) := ((Below.refl WW.heap.size WW).alloc (Nat.le_refl _) _).drew
              have HX2 : Hid (Below W1.heap.size W1 ((WW.alloc (.cells #[.int .i64 x, .int .i64 y] 26)).drew)) := Lib.hid (HWW.out.trans (hb2.mono HWW.out.size))
              have HS2 : Hid (((WW.alloc (.cells #[.int .i64 x, .int .i64 y] 26)).drew).cell? ⟨bb, ob + k, none⟩ = some (.int .i64 x) ∧ ((WW.alloc (.cells #[.int .i64 x, .int .i64 y] 26)).drew).cell? ⟨bb, ob + (k + 1), none⟩ = some (.int .i64 y)) := Lib.hid ⟨cell_on HX2.out HC0.out, cell_on HX2.out HC1.out⟩
              have HO2 := Lib.hid (ownM_below HOW.out hb2)
              have HG2 : Hid (Blk ((WW.alloc (.cells #[.int .i64 x, .int .i64 y] 26)).drew) WW.heap.size 26 #[.int .i64 x, .int .i64 y]) := Lib.hid (Blk.new WW _ _)
              clear hb2
              refine wp_region_held_drew (S := (fun X : World => X.cell? ⟨bb, ob + k, none⟩ = some (.int .i64 x) ∧ X.cell? ⟨bb, ob + (k + 1), none⟩ = some (.int .i64 y))) (by kernel_rfl) HSD.out (fun hHeld => ?_)
              clear hHeld
              refine wpAnyH_take (i := 0) (v := ?_) rfl (by kernel_rfl) (by kernel_rfl) (by kernel_rfl) (fun _ _ _ h => h) (Or.inl ⟨by rfl, ?_⟩) HSE.out ?_
              rotate_left
              · (intro wS hSw; (try dsimp only at hSw); go_simp; try with_reducible rfl)
              simp only [Act.put, List.getElem_toArray, List.getElem_cons_zero, List.getElem_cons_succ, List.setIfInBounds_toArray, List.set_cons_zero, List.set_cons_succ]
              refine wpAnyH_take (i := 1) (v := ?_) rfl (by kernel_rfl) (by kernel_rfl) (by kernel_rfl) (fun _ _ _ h => h) (Or.inl ⟨by rfl, ?_⟩) HSE.out ?_
              rotate_left
              · (intro wS hSw; (try dsimp only at hSw); go_simp; try with_reducible rfl)
              simp only [Act.put, List.getElem_toArray, List.getElem_cons_zero, List.getElem_cons_succ, List.setIfInBounds_toArray, List.set_cons_zero, List.set_cons_succ]
              refine wpAnyH_take (i := 2) (v := ?_) rfl (by kernel_rfl) (by kernel_rfl) (by kernel_rfl) (fun _ _ _ h => h) (Or.inl ⟨by rfl, ?_⟩) HSE.out ?_
              rotate_left
              · (intro wS hSw; (try dsimp only at hSw); go_simp; try with_reducible rfl)
              simp only [Act.put, List.getElem_toArray, List.getElem_cons_zero, List.getElem_cons_succ, List.setIfInBounds_toArray, List.set_cons_zero, List.set_cons_succ]
              refine wpAnyH_take (i := 3) (v := ?_) rfl (by kernel_rfl) (by kernel_rfl) (by kernel_rfl) (fun _ _ _ h => h) (Or.inl ⟨by rfl, ?_⟩) HSE.out ?_
              rotate_left
              · (intro wS hSw; (try dsimp only at hSw); go_simp; try with_reducible rfl)
              simp only [Act.put, List.getElem_toArray, List.getElem_cons_zero, List.getElem_cons_succ, List.setIfInBounds_toArray, List.set_cons_zero, List.set_cons_succ]
              refine wpAnyH_take (i := 4) (v := ?_) rfl (by kernel_rfl) (by kernel_rfl) (by kernel_rfl) (fun _ _ _ h => h) (Or.inl ⟨by rfl, ?_⟩) HSE.out ?_
              rotate_left
              · (intro wS hSw; (try dsimp only at hSw); go_simp; try with_reducible rfl)
              simp only [Act.put, List.getElem_toArray, List.getElem_cons_zero, List.getElem_cons_succ, List.setIfInBounds_toArray, List.set_cons_zero, List.set_cons_succ]
              refine wpAnyH_take (i := 5) (v := ?_) rfl (by kernel_rfl) (by kernel_rfl) (by kernel_rfl) (fun _ _ _ h => h) (Or.inl ⟨by rfl, ?_⟩) HSE.out ?_
              rotate_left
              · (intro wS hSw; (try dsimp only at hSw); go_simp; try with_reducible rfl)
              simp only [Act.put, List.getElem_toArray, List.getElem_cons_zero, List.getElem_cons_succ, List.setIfInBounds_toArray, List.set_cons_zero, List.set_cons_succ]
              refine wpAnyH_take (i := 6) (v := ?_) rfl (by kernel_rfl) (by kernel_rfl) (by kernel_rfl) (fun _ _ _ h => h) (Or.inl ⟨by rfl, ?_⟩) HSE.out ?_
              rotate_left
              · (intro wS hSw; (try dsimp only at hSw); go_simp; try with_reducible rfl)
              simp only [Act.put, List.getElem_toArray, List.getElem_cons_zero, List.getElem_cons_succ, List.setIfInBounds_toArray, List.set_cons_zero, List.set_cons_succ]
              refine wpAnyH_take (i := 7) (v := ?_) rfl (by kernel_rfl) (by kernel_rfl) (by kernel_rfl) (fun _ _ _ h => h) (Or.inl ⟨by rfl, ?_⟩) HSE.out ?_
              rotate_left
              · (intro wS hSw; (try dsimp only at hSw); go_simp; try with_reducible rfl)
              simp only [Act.put, List.getElem_toArray, List.getElem_cons_zero, List.getElem_cons_succ, List.setIfInBounds_toArray, List.set_cons_zero, List.set_cons_succ]
              refine wpAnyH_take (i := 8) (v := ?_) rfl (by kernel_rfl) (by kernel_rfl) (by kernel_rfl) (fun _ _ _ h => h) (Or.inl ⟨by rfl, ?_⟩) HSE.out ?_
              rotate_left
              · (intro wS hSw; (try dsimp only at hSw); go_simp; try with_reducible rfl)
              simp only [Act.put, List.getElem_toArray, List.getElem_cons_zero, List.getElem_cons_succ, List.setIfInBounds_toArray, List.set_cons_zero, List.set_cons_succ]
              refine wpAnyH_take (i := 9) (v := ?_) rfl (by kernel_rfl) (by kernel_rfl) (by kernel_rfl) (fun _ _ _ h => h) (Or.inl ⟨by rfl, ?_⟩) HSE.out ?_
              rotate_left
              · (intro wS hSw; (try dsimp only at hSw); go_simp; try with_reducible rfl)
              simp only [Act.put, List.getElem_toArray, List.getElem_cons_zero, List.getElem_cons_succ, List.setIfInBounds_toArray, List.set_cons_zero, List.set_cons_succ]
              refine wpAnyH_take (i := 10) (v := ?_) rfl (by kernel_rfl) (by kernel_rfl) (by kernel_rfl) (fun _ _ _ h => h) (Or.inl ⟨by rfl, ?_⟩) HSE.out ?_
              rotate_left
              · (intro wS hSw; (try dsimp only at hSw); go_simp; try with_reducible rfl)
              simp only [Act.put, List.getElem_toArray, List.getElem_cons_zero, List.getElem_cons_succ, List.setIfInBounds_toArray, List.set_cons_zero, List.set_cons_succ]
              refine wpAnyH_ready (rs := [11]) (by kernel_rfl) (by simp) ?_
              refine AllReadyH.cons rfl (fun K hK => ?_) AllReadyH.nil
              go_simp
              refine hK.out _ _ HS2.out (fun hHeld => ?_)
              clear hK K hHeld
              try simp only [Act.put, List.getElem_toArray, List.getElem_cons_zero, List.getElem_cons_succ, List.setIfInBounds_toArray, List.set_cons_zero, List.set_cons_succ]
              refine wpAnyH_ready (rs := [12]) (by kernel_rfl) (by simp) ?_
              refine AllReadyH.cons rfl (fun K hK => ?_) AllReadyH.nil
              refine step_span (by rfl) _ _ (by rfl) W1.heap.size ov (M'.length + 1) (rowM 2 (zS (M' ++ [(p, q)])) (M'.length + 1)) (by rfl) HO2.out WW.heap.size 1 x y (by rfl) HG2.out (by have := HML.out; omega) (by have := HWW.out.size; simp; omega) ?_
              intro v3 u3 p3 q3
              have HB3 : Hid (Below W1.heap.size W1 u3) := Lib.hid (HX2.out.trans q3)
              have HS3 : Hid (u3.cell? ⟨bb, ob + k, none⟩ = some (.int .i64 x) ∧ u3.cell? ⟨bb, ob + (k + 1), none⟩ = some (.int .i64 y)) := Lib.hid ⟨cell_on HB3.out HC0.out, cell_on HB3.out HC1.out⟩
              have HP3 := Lib.hid p3
              clear p3 q3
              refine hK.out _ _ HS3.out (fun hHeld => ?_)
              clear hK K hHeld
              try simp only [Act.put, List.getElem_toArray, List.getElem_cons_zero, List.getElem_cons_succ, List.setIfInBounds_toArray, List.set_cons_zero, List.set_cons_succ]
              refine wpAnyH_take (i := 13) (v := ?_) rfl (by kernel_rfl) (by kernel_rfl) (by kernel_rfl) (fun _ _ _ h => h) (Or.inl ⟨by rfl, ?_⟩) HS3.out ?_
              rotate_left
              · (intro wS hSw; (try dsimp only at hSw); go_simp; try with_reducible rfl)
              simp only [Act.put, List.getElem_toArray, List.getElem_cons_zero, List.getElem_cons_succ, List.setIfInBounds_toArray, List.set_cons_zero, List.set_cons_succ]
              refine wpAnyH_done (by kernel_rfl) ?_ _
              go_wp2_with fail
              go_roundg (NB - (k + 1))
              case rel => exact ⟨k + 1, by omega, rfl, by go_num, Lib.hid ⟨by
                  have e1 : mkA f (zat B) (k + 1) = M' ++ [(p, q)] ++ [(x, y)] := by
                    rw [mk_new HF.out (fun L p' e => by rw [HMk.out] at e; have := List.append_inj_right' e rfl; simp only [List.cons.injEq, and_true] at this; rw [← this, HXX.out]; exact hqx), HMk.out, HXX.out, HYY.out]
                  rw [e1]
                  have e2 := rowS_push (M' ++ [(p, q)]) x y
                  rw [List.length_append] at e2
                  rw [← e2, List.length_append, List.length_append]
                  exact HP3.out, HB3.out⟩⟩
              case measure => omega
    · have hk1 : ¬ (k : Int) + 1 < (NB : Int) := by omega
      have hkw : IntKind.i64.wrap ((k : Int) + 1) = (k : Int) + 1 := IntWalk.i64_in _ (by omega)
      have hkk : k = NB - 1 := by omega
      have HKK := Lib.hid hkk
      have hdd : decide ((k : Int) + 1 < (NB : Int)) = false := by simpa using hk1
      have HFIN : Hid (IsS wr _ (makeL a b 1)) := Lib.hid (by
        have e : makeL a b 1 = mkA f (zat B) k := by unfold makeL; rw [HBB.out, HNB.out, ← HKK.out, HFF.out]
        rw [e]
        refine own_isS HI.out.1 (fun p hp => ?_)
        obtain ⟨⟨j, h1, h2⟩, ⟨i, h3, h4⟩⟩ := mk_mem f (zat B) k p hp
        have hl : 0 < (mkA f (zat B) k).length := List.length_pos_of_mem hp
        have hl2 := mk_len f (zat B) k
        have hin : ∀ j, j ≤ k → zat B j ∈ B := fun j hj => at_mem (by rw [HNB.out]; omega)
        rw [h2, h4]
        exact ⟨HBW.out _ (hin j h1), HBW.out _ (hin i h3)⟩)
      have HLE : Hid ((makeL a b 1).length ≤ 2 * (a.length + b.length)) := Lib.hid (by
        have e : makeL a b 1 = mkA f (zat B) k := by unfold makeL; rw [HBB.out, HNB.out, ← HKK.out, HFF.out]
        have := mk_len f (zat B) k
        have := HLB.out
        rw [e]; omega)
      clear hkk hk
      go_wp2_with fail
      rw [← HR.out]
      exact ⟨_, rfl, HFIN.out, HE1.out.trans (HI.out.2.mono HE1.out.size), HLE.out⟩
set_option maxRecDepth 100000 in
set_option maxHeartbeats 8000000 in
theorem make2_any (va vb : Value) (a b : List (Int × Int)) (w : World) (ha : IsS w va a) (hb : IsS w vb b) (hla : a.length ≤ 1000) (hlb : b.length ≤ 1000) :
    Calls Try.prog 8 #[va, vb, .int .i64 2] w (MakR a b 2 w) := by
  have HA := Lib.hid ha; have HB := Lib.hid hb
  have KB := Lib.hid (bounds_any va vb a b w ha hb hla hlb)
  have hwa := zS_in ha; have hwb := zS_in hb
  have HBW : Hid (∀ x, x ∈ bdL (a ++ b) → -9223372036854775808 ≤ x ∧ x ≤ 9223372036854775807) := Lib.hid fun x hx => by
    obtain ⟨p, hp, e⟩ := (bd_mem (a ++ b) x).1 hx
    have h := (List.mem_append.1 hp).elim (hwa p) (hwb p)
    rcases e with rfl | rfl
    · exact h.1
    · exact h.2
  have HLB : Hid ((bdL (a ++ b)).length ≤ 2 * (a.length + b.length)) := Lib.hid (by have := bds_len (a ++ b) (2 * (a ++ b).length); unfold bdL; rw [List.length_append] at this ⊢; omega)
  obtain ⟨R, hR⟩ : ∃ R : Ending → World → Prop, MakR a b 2 w = R := ⟨_, rfl⟩
  have HR := Lib.hid hR
  rw [hR]
  clear hR ha hb hwa hwb
  go_enter Try.func8, Try.ntmps8
  go_wp2_with fail
  refine KB.out.mono ?_
  rintro e W1 ⟨vB, rfl, hIB, hbB⟩
  obtain ⟨AB, cB, rfl, rB, n1, n2, n3⟩ := hIB
  have HE1 := Lib.hid hbB
  obtain ⟨B, hBB⟩ : ∃ B, bdL (a ++ b) = B := ⟨_, rfl⟩
  have HBB := Lib.hid hBB
  rw [hBB] at rB n1 HBW HLB ⊢
  have HRB := Lib.hid rB
  obtain ⟨NB, hNB⟩ : ∃ n, B.length = n := ⟨_, rfl⟩
  have HNB := Lib.hid hNB
  rw [hNB] at n1 HLB ⊢
  obtain ⟨f, hf⟩ : ∃ f : Nat → Bool, (fun i => kindF 2 a b (zat B i)) = f := ⟨_, rfl⟩
  have HFF := Lib.hid hf
  have hNB2 : NB ≤ 4000 := by have := HLB.out; omega
  clear hbB rB hBB hNB n3 hf KB
  go_wp2_with fail
  go_loopg [8, 9] NB (fun g ov i wr => ∃ k : Nat, k ≤ NB - 1 ∧ g = NB - k ∧ i = .int .i64 k ∧ Hid (wr.ownsRow W1.heap.size 26 2 ov (mkA f (zat B) k).length (rowM 2 (zS (mkA f (zat B) k)) (mkA f (zat B) k).length) ∧ Below W1.heap.size W1 wr))
  case atStart => exact ⟨0, by omega, by omega, rfl, Lib.hid ⟨⟨by simp [mkA, rowM_len], Or.inl ⟨rfl, rfl⟩⟩, Below.refl _ _⟩⟩
  case round =>
    obtain ⟨k, hk, rfl, rfl, HI⟩ := hrel
    by_cases h : k + 1 < NB
    · have hk1 : (k : Int) + 1 < (NB : Int) := by omega
      have hkw : IntKind.i64.wrap ((k : Int) + 1) = (k : Int) + 1 := IntWalk.i64_in _ (by omega)
      have hkt : ((k : Int) + 1).toNat = k + 1 := by omega
      have hkn : (0 : Int) ≤ (k : Int) + 1 := by omega
      have hkl : k < NB := by omega
      obtain ⟨bb, ob, rfl, _, hcell⟩ := rdI_row HRB.out (by rw [HNB.out]; omega)
      have c0 := hcell k (by rw [HNB.out]; omega)
      have c1 := hcell (k + 1) (by rw [HNB.out]; omega)
      obtain ⟨x, hx⟩ : ∃ x, zat B k = x := ⟨_, rfl⟩
      obtain ⟨y, hy⟩ : ∃ y, zat B (k + 1) = y := ⟨_, rfl⟩
      rw [hx] at c0
      rw [hy] at c1
      have HXX := Lib.hid hx; have HYY := Lib.hid hy
      have HC0 := Lib.hid c0; have HC1 := Lib.hid c1
      have d0 := cell_on HI.out.2 c0
      have d1 := cell_on HI.out.2 c1
      have hML := mk_len f (zat B) k
      obtain ⟨M, hMM⟩ : ∃ M, mkA f (zat B) k = M := ⟨_, rfl⟩
      have HMk := Lib.hid hMM
      rw [hMM] at HI hML
      have HML : Hid (M.length ≤ 4000) := Lib.hid (by omega)
      have HAW := Lib.hid (HA.out.kept (HE1.out.trans (HI.out.2.mono HE1.out.size)))
      have HBW2 := Lib.hid (HB.out.kept (HE1.out.trans (HI.out.2.mono HE1.out.size)))
      have hFk : f k = kindF 2 a b x := by rw [← HFF.out, ← HXX.out]
      clear hcell hx hy c0 c1 hMM hML
      go_wp2_with fail
      refine (dhas_any va a x wr HAW.out (by omega)).mono ?_
      rintro e wr' ⟨rfl, rfl⟩
      obtain ⟨fa, hfa⟩ : ∃ v, hasL a x = v := ⟨_, rfl⟩
      rw [hfa]
      cases fa
      · have hFk : f k = false := by rw [hFk]; unfold kindF; rw [hfa]; simp
        have HF := Lib.hid hFk
        clear hFk hfa
        go_wp2_with fail
        go_roundg (NB - (k + 1))
        case rel => exact ⟨k + 1, by omega, rfl, by go_num, Lib.hid (by rw [mk_no HF.out, HMk.out]; exact HI.out)⟩
        case measure => omega
      · skip
        go_wp2_with fail
        refine (dhas_any vb b x wr HBW2.out (by omega)).mono ?_
        rintro e wr' ⟨rfl, rfl⟩
        obtain ⟨fb, hfb⟩ : ∃ v, hasL b x = v := ⟨_, rfl⟩
        rw [hfb]
        have hFk : f k = !fb := by rw [hFk]; unfold kindF; rw [hfa, hfb]; simp
        clear hfa hfb
        cases fb
        · have HF : Hid (f k = true) := Lib.hid hFk
          clear hFk
          rcases List.eq_nil_or_concat M with hM | ⟨M', pq, hM⟩
          · subst hM
            simp only [List.length_nil, rowM_zero] at HI
            obtain ⟨g0, cap0, rfl⟩ := ownM_slice HI.out.1
            have HS := Lib.hid (And.intro (cell_on (HI.out.2).drew HC0.out) (cell_on (HI.out.2).drew HC1.out))
            go_wp2_with fail
            refine wp_region_held_drew (S := (fun X : World => X.cell? ⟨bb, ob + k, none⟩ = some (.int .i64 x) ∧ X.cell? ⟨bb, ob + (k + 1), none⟩ = some (.int .i64 y))) (by kernel_rfl) HS.out (fun hHeld => ?_)
            clear hHeld
            refine wpAnyH_take (i := 0) (v := ?_) rfl (by kernel_rfl) (by kernel_rfl) (by kernel_rfl) (fun _ _ _ h => h) (Or.inl ⟨by rfl, ?_⟩) HS.out ?_
            rotate_left
            · (intro wS hSw; (try dsimp only at hSw); go_simp; try with_reducible rfl)
            simp only [Act.put, List.getElem_toArray, List.getElem_cons_zero, List.getElem_cons_succ, List.setIfInBounds_toArray, List.set_cons_zero, List.set_cons_succ]
            refine wpAnyH_take (i := 1) (v := ?_) rfl (by kernel_rfl) (by kernel_rfl) (by kernel_rfl) (fun _ _ _ h => h) (Or.inl ⟨by rfl, ?_⟩) HS.out ?_
            rotate_left
            · (intro wS hSw; (try dsimp only at hSw); go_simp; try with_reducible rfl)
            simp only [Act.put, List.getElem_toArray, List.getElem_cons_zero, List.getElem_cons_succ, List.setIfInBounds_toArray, List.set_cons_zero, List.set_cons_succ]
            refine wpAnyH_take (i := 2) (v := ?_) rfl (by kernel_rfl) (by kernel_rfl) (by kernel_rfl) (fun _ _ _ h => h) (Or.inl ⟨by rfl, ?_⟩) HS.out ?_
            rotate_left
            · (intro wS hSw; (try dsimp only at hSw); go_simp; try with_reducible rfl)
            simp only [Act.put, List.getElem_toArray, List.getElem_cons_zero, List.getElem_cons_succ, List.setIfInBounds_toArray, List.set_cons_zero, List.set_cons_succ]
            refine wpAnyH_take (i := 3) (v := undef) rfl (by kernel_rfl) (by kernel_rfl) (by kernel_rfl) (fun _ _ _ h => h) (Or.inr ⟨by kernel_rfl, rfl⟩) HS.out ?_
            simp only [Act.put, List.getElem_toArray, List.getElem_cons_zero, List.getElem_cons_succ, List.setIfInBounds_toArray, List.set_cons_zero, List.set_cons_succ]
            refine wpAnyH_take (i := 4) (v := undef) rfl (by kernel_rfl) (by kernel_rfl) (by kernel_rfl) (fun _ _ _ h => h) (Or.inr ⟨by kernel_rfl, rfl⟩) HS.out ?_
            simp only [Act.put, List.getElem_toArray, List.getElem_cons_zero, List.getElem_cons_succ, List.setIfInBounds_toArray, List.set_cons_zero, List.set_cons_succ]
            refine wpAnyH_take (i := 5) (v := undef) rfl (by kernel_rfl) (by kernel_rfl) (by kernel_rfl) (fun _ _ _ h => h) (Or.inr ⟨by kernel_rfl, rfl⟩) HS.out ?_
            simp only [Act.put, List.getElem_toArray, List.getElem_cons_zero, List.getElem_cons_succ, List.setIfInBounds_toArray, List.set_cons_zero, List.set_cons_succ]
            refine wpAnyH_take (i := 6) (v := undef) rfl (by kernel_rfl) (by kernel_rfl) (by kernel_rfl) (fun _ _ _ h => h) (Or.inr ⟨by kernel_rfl, rfl⟩) HS.out ?_
            simp only [Act.put, List.getElem_toArray, List.getElem_cons_zero, List.getElem_cons_succ, List.setIfInBounds_toArray, List.set_cons_zero, List.set_cons_succ]
            refine wpAnyH_take (i := 7) (v := undef) rfl (by kernel_rfl) (by kernel_rfl) (by kernel_rfl) (fun _ _ _ h => h) (Or.inr ⟨by kernel_rfl, rfl⟩) HS.out ?_
            simp only [Act.put, List.getElem_toArray, List.getElem_cons_zero, List.getElem_cons_succ, List.setIfInBounds_toArray, List.set_cons_zero, List.set_cons_succ]
            refine wpAnyH_take (i := 8) (v := undef) rfl (by kernel_rfl) (by kernel_rfl) (by kernel_rfl) (fun _ _ _ h => h) (Or.inr ⟨by kernel_rfl, rfl⟩) HS.out ?_
            simp only [Act.put, List.getElem_toArray, List.getElem_cons_zero, List.getElem_cons_succ, List.setIfInBounds_toArray, List.set_cons_zero, List.set_cons_succ]
            refine wpAnyH_take (i := 9) (v := undef) rfl (by kernel_rfl) (by kernel_rfl) (by kernel_rfl) (fun _ _ _ h => h) (Or.inr ⟨by kernel_rfl, rfl⟩) HS.out ?_
            simp only [Act.put, List.getElem_toArray, List.getElem_cons_zero, List.getElem_cons_succ, List.setIfInBounds_toArray, List.set_cons_zero, List.set_cons_succ]
            refine wpAnyH_take (i := 10) (v := undef) rfl (by kernel_rfl) (by kernel_rfl) (by kernel_rfl) (fun _ _ _ h => h) (Or.inr ⟨by kernel_rfl, rfl⟩) HS.out ?_
            simp only [Act.put, List.getElem_toArray, List.getElem_cons_zero, List.getElem_cons_succ, List.setIfInBounds_toArray, List.set_cons_zero, List.set_cons_succ]
            refine wpAnyH_take (i := 11) (v := undef) rfl (by kernel_rfl) (by kernel_rfl) (by kernel_rfl) (fun _ _ _ h => h) (Or.inr ⟨by kernel_rfl, rfl⟩) HS.out ?_
            simp only [Act.put, List.getElem_toArray, List.getElem_cons_zero, List.getElem_cons_succ, List.setIfInBounds_toArray, List.set_cons_zero, List.set_cons_succ]
            refine wpAnyH_take (i := 12) (v := undef) rfl (by kernel_rfl) (by kernel_rfl) (by kernel_rfl) (fun _ _ _ h => h) (Or.inr ⟨by kernel_rfl, rfl⟩) HS.out ?_
            simp only [Act.put, List.getElem_toArray, List.getElem_cons_zero, List.getElem_cons_succ, List.setIfInBounds_toArray, List.set_cons_zero, List.set_cons_succ]
            refine wpAnyH_take (i := 13) (v := undef) rfl (by kernel_rfl) (by kernel_rfl) (by kernel_rfl) (fun _ _ _ h => h) (Or.inr ⟨by kernel_rfl, rfl⟩) HS.out ?_
            simp only [Act.put, List.getElem_toArray, List.getElem_cons_zero, List.getElem_cons_succ, List.setIfInBounds_toArray, List.set_cons_zero, List.set_cons_succ]
            refine wpAnyH_take (i := 14) (v := ?_) rfl (by kernel_rfl) (by kernel_rfl) (by kernel_rfl) (fun _ _ _ h => h) (Or.inl ⟨by rfl, ?_⟩) HS.out ?_
            rotate_left
            · (intro wS hSw; (try dsimp only at hSw); go_simp; try with_reducible rfl)
            simp only [Act.put, List.getElem_toArray, List.getElem_cons_zero, List.getElem_cons_succ, List.setIfInBounds_toArray, List.set_cons_zero, List.set_cons_succ]
            refine wpAnyH_done (by kernel_rfl) ?_ _
            go_wp2_with fail
            obtain ⟨ov, hov⟩ : ∃ v, Value.slice g0 0 cap0 = v := ⟨_, rfl⟩
            rw [hov] at HI
            try rw [hov]
            clear hov
            obtain ⟨WW, hWW⟩ : ∃ X, wr.drew = X := ⟨_, rfl⟩
            have HWW : Hid (Below W1.heap.size W1 WW) := Lib.hid (by rw [← hWW]; exact HI.out.2.drew)
            have HOW : Hid (WW.ownsRow W1.heap.size 26 2 ov 0 []) := Lib.hid (by rw [← hWW]; exact ownM_below HI.out.1 (Below.refl _ _).drew)
            try rw [hWW]
            clear hWW
            have HSD : Hid (WW.drew.cell? ⟨bb, ob + k, none⟩ = some (.int .i64 x) ∧ WW.drew.cell? ⟨bb, ob + (k + 1), none⟩ = some (.int .i64 y)) := Lib.hid ⟨cell_on HWW.out.drew HC0.out, cell_on HWW.out.drew HC1.out⟩
            have HSE := HSD
            have hb2 : Below WW.heap.size WW ((WW.alloc (.cells #[.int .i64 x, .int .i64 y] 26)).drew) := ((Below.refl WW.heap.size WW).alloc (Nat.le_refl _) _).drew
            have HX2 : Hid (Below W1.heap.size W1 ((WW.alloc (.cells #[.int .i64 x, .int .i64 y] 26)).drew)) := Lib.hid (HWW.out.trans (hb2.mono HWW.out.size))
            have HS2 : Hid (((WW.alloc (.cells #[.int .i64 x, .int .i64 y] 26)).drew).cell? ⟨bb, ob + k, none⟩ = some (.int .i64 x) ∧ ((WW.alloc (.cells #[.int .i64 x, .int .i64 y] 26)).drew).cell? ⟨bb, ob + (k + 1), none⟩ = some (.int .i64 y)) := Lib.hid ⟨cell_on HX2.out HC0.out, cell_on HX2.out HC1.out⟩
            have HO2 := Lib.hid (ownM_below HOW.out hb2)
            have HG2 : Hid (Blk ((WW.alloc (.cells #[.int .i64 x, .int .i64 y] 26)).drew) WW.heap.size 26 #[.int .i64 x, .int .i64 y]) := Lib.hid (Blk.new WW _ _)
            clear hb2
            refine wp_region_held_drew (S := (fun X : World => X.cell? ⟨bb, ob + k, none⟩ = some (.int .i64 x) ∧ X.cell? ⟨bb, ob + (k + 1), none⟩ = some (.int .i64 y))) (by kernel_rfl) HSD.out (fun hHeld => ?_)
            clear hHeld
            refine wpAnyH_take (i := 0) (v := ?_) rfl (by kernel_rfl) (by kernel_rfl) (by kernel_rfl) (fun _ _ _ h => h) (Or.inl ⟨by rfl, ?_⟩) HSE.out ?_
            rotate_left
            · (intro wS hSw; (try dsimp only at hSw); go_simp; try with_reducible rfl)
            simp only [Act.put, List.getElem_toArray, List.getElem_cons_zero, List.getElem_cons_succ, List.setIfInBounds_toArray, List.set_cons_zero, List.set_cons_succ]
            refine wpAnyH_take (i := 1) (v := ?_) rfl (by kernel_rfl) (by kernel_rfl) (by kernel_rfl) (fun _ _ _ h => h) (Or.inl ⟨by rfl, ?_⟩) HSE.out ?_
            rotate_left
            · (intro wS hSw; (try dsimp only at hSw); go_simp; try with_reducible rfl)
            simp only [Act.put, List.getElem_toArray, List.getElem_cons_zero, List.getElem_cons_succ, List.setIfInBounds_toArray, List.set_cons_zero, List.set_cons_succ]
            refine wpAnyH_take (i := 2) (v := ?_) rfl (by kernel_rfl) (by kernel_rfl) (by kernel_rfl) (fun _ _ _ h => h) (Or.inl ⟨by rfl, ?_⟩) HSE.out ?_
            rotate_left
            · (intro wS hSw; (try dsimp only at hSw); go_simp; try with_reducible rfl)
            simp only [Act.put, List.getElem_toArray, List.getElem_cons_zero, List.getElem_cons_succ, List.setIfInBounds_toArray, List.set_cons_zero, List.set_cons_succ]
            refine wpAnyH_take (i := 3) (v := ?_) rfl (by kernel_rfl) (by kernel_rfl) (by kernel_rfl) (fun _ _ _ h => h) (Or.inl ⟨by rfl, ?_⟩) HSE.out ?_
            rotate_left
            · (intro wS hSw; (try dsimp only at hSw); go_simp; try with_reducible rfl)
            simp only [Act.put, List.getElem_toArray, List.getElem_cons_zero, List.getElem_cons_succ, List.setIfInBounds_toArray, List.set_cons_zero, List.set_cons_succ]
            refine wpAnyH_take (i := 4) (v := ?_) rfl (by kernel_rfl) (by kernel_rfl) (by kernel_rfl) (fun _ _ _ h => h) (Or.inl ⟨by rfl, ?_⟩) HSE.out ?_
            rotate_left
            · (intro wS hSw; (try dsimp only at hSw); go_simp; try with_reducible rfl)
            simp only [Act.put, List.getElem_toArray, List.getElem_cons_zero, List.getElem_cons_succ, List.setIfInBounds_toArray, List.set_cons_zero, List.set_cons_succ]
            refine wpAnyH_take (i := 5) (v := ?_) rfl (by kernel_rfl) (by kernel_rfl) (by kernel_rfl) (fun _ _ _ h => h) (Or.inl ⟨by rfl, ?_⟩) HSE.out ?_
            rotate_left
            · (intro wS hSw; (try dsimp only at hSw); go_simp; try with_reducible rfl)
            simp only [Act.put, List.getElem_toArray, List.getElem_cons_zero, List.getElem_cons_succ, List.setIfInBounds_toArray, List.set_cons_zero, List.set_cons_succ]
            refine wpAnyH_take (i := 6) (v := ?_) rfl (by kernel_rfl) (by kernel_rfl) (by kernel_rfl) (fun _ _ _ h => h) (Or.inl ⟨by rfl, ?_⟩) HSE.out ?_
            rotate_left
            · (intro wS hSw; (try dsimp only at hSw); go_simp; try with_reducible rfl)
            simp only [Act.put, List.getElem_toArray, List.getElem_cons_zero, List.getElem_cons_succ, List.setIfInBounds_toArray, List.set_cons_zero, List.set_cons_succ]
            refine wpAnyH_take (i := 7) (v := ?_) rfl (by kernel_rfl) (by kernel_rfl) (by kernel_rfl) (fun _ _ _ h => h) (Or.inl ⟨by rfl, ?_⟩) HSE.out ?_
            rotate_left
            · (intro wS hSw; (try dsimp only at hSw); go_simp; try with_reducible rfl)
            simp only [Act.put, List.getElem_toArray, List.getElem_cons_zero, List.getElem_cons_succ, List.setIfInBounds_toArray, List.set_cons_zero, List.set_cons_succ]
            refine wpAnyH_take (i := 8) (v := ?_) rfl (by kernel_rfl) (by kernel_rfl) (by kernel_rfl) (fun _ _ _ h => h) (Or.inl ⟨by rfl, ?_⟩) HSE.out ?_
            rotate_left
            · (intro wS hSw; (try dsimp only at hSw); go_simp; try with_reducible rfl)
            simp only [Act.put, List.getElem_toArray, List.getElem_cons_zero, List.getElem_cons_succ, List.setIfInBounds_toArray, List.set_cons_zero, List.set_cons_succ]
            refine wpAnyH_take (i := 9) (v := ?_) rfl (by kernel_rfl) (by kernel_rfl) (by kernel_rfl) (fun _ _ _ h => h) (Or.inl ⟨by rfl, ?_⟩) HSE.out ?_
            rotate_left
            · (intro wS hSw; (try dsimp only at hSw); go_simp; try with_reducible rfl)
            simp only [Act.put, List.getElem_toArray, List.getElem_cons_zero, List.getElem_cons_succ, List.setIfInBounds_toArray, List.set_cons_zero, List.set_cons_succ]
            refine wpAnyH_take (i := 10) (v := ?_) rfl (by kernel_rfl) (by kernel_rfl) (by kernel_rfl) (fun _ _ _ h => h) (Or.inl ⟨by rfl, ?_⟩) HSE.out ?_
            rotate_left
            · (intro wS hSw; (try dsimp only at hSw); go_simp; try with_reducible rfl)
            simp only [Act.put, List.getElem_toArray, List.getElem_cons_zero, List.getElem_cons_succ, List.setIfInBounds_toArray, List.set_cons_zero, List.set_cons_succ]
            refine wpAnyH_ready (rs := [11]) (by kernel_rfl) (by simp) ?_
            refine AllReadyH.cons rfl (fun K hK => ?_) AllReadyH.nil
            go_simp
            refine hK.out _ _ HS2.out (fun hHeld => ?_)
            clear hK K hHeld
            try simp only [Act.put, List.getElem_toArray, List.getElem_cons_zero, List.getElem_cons_succ, List.setIfInBounds_toArray, List.set_cons_zero, List.set_cons_succ]
            refine wpAnyH_ready (rs := [12]) (by kernel_rfl) (by simp) ?_
            refine AllReadyH.cons rfl (fun K hK => ?_) AllReadyH.nil
            refine step_span (by rfl) _ _ (by rfl) W1.heap.size ov 0 [] (by rfl) HO2.out WW.heap.size 1 x y (by rfl) HG2.out (by have := HML.out; omega) (by have := HWW.out.size; simp; omega) ?_
            intro v3 u3 p3 q3
            have HB3 : Hid (Below W1.heap.size W1 u3) := Lib.hid (HX2.out.trans q3)
            have HS3 : Hid (u3.cell? ⟨bb, ob + k, none⟩ = some (.int .i64 x) ∧ u3.cell? ⟨bb, ob + (k + 1), none⟩ = some (.int .i64 y)) := Lib.hid ⟨cell_on HB3.out HC0.out, cell_on HB3.out HC1.out⟩
            have HP3 := Lib.hid p3
            clear p3 q3
            refine hK.out _ _ HS3.out (fun hHeld => ?_)
            clear hK K hHeld
            try simp only [Act.put, List.getElem_toArray, List.getElem_cons_zero, List.getElem_cons_succ, List.setIfInBounds_toArray, List.set_cons_zero, List.set_cons_succ]
            refine wpAnyH_take (i := 13) (v := ?_) rfl (by kernel_rfl) (by kernel_rfl) (by kernel_rfl) (fun _ _ _ h => h) (Or.inl ⟨by rfl, ?_⟩) HS3.out ?_
            rotate_left
            · (intro wS hSw; (try dsimp only at hSw); go_simp; try with_reducible rfl)
            simp only [Act.put, List.getElem_toArray, List.getElem_cons_zero, List.getElem_cons_succ, List.setIfInBounds_toArray, List.set_cons_zero, List.set_cons_succ]
            refine wpAnyH_done (by kernel_rfl) ?_ _
            go_wp2_with fail
            go_roundg (NB - (k + 1))
            case rel => exact ⟨k + 1, by omega, rfl, by go_num, Lib.hid ⟨by
                have e1 : mkA f (zat B) (k + 1) = [] ++ [(x, y)] := by rw [mk_new HF.out (fun L p e => by rw [HMk.out] at e; simp at e), HMk.out, HXX.out, HYY.out]
                rw [e1, ← rowS_push, List.length_nil, rowM_zero]
                exact HP3.out, HB3.out⟩⟩
            case measure => omega
          · rw [List.concat_eq_append] at hM
            obtain ⟨p, q⟩ := pq
            subst hM
            have hml : (M' ++ [(p, q)]).length = M'.length + 1 := by simp
            rw [hml] at HI
            obtain ⟨go, cap0, rfl, hgo, hcap⟩ := ownM_head HI.out.1 (by omega)
            have hHML := HML.out
            rw [hml] at hHML
            have cq := ownM_at HI.out.1 (i := M'.length) (j := 1) (by omega) (by omega)
            rw [zS_last] at cq
            have cqf := HI.out.1.frozenAt (M'.length * 2 + 1)
            have HS := Lib.hid (And.intro (cell_on (HI.out.2).drew HC0.out) (cell_on (HI.out.2).drew HC1.out))
            have HS9 := Lib.hid (And.intro (cell_on (HI.out.2).drew HC0.out) (And.intro (cell_on (HI.out.2).drew HC1.out) (cell_on ((Below.refl wr.heap.size wr).drew) cq)))
            have hm1 : ((M'.length + 1 : Nat) : Int) - 1 = (M'.length : Int) := by omega
            have hm2 : (0 : Int) < ((M'.length + 1 : Nat) : Int) := by omega
            have hm3 : (M'.length : Int) + 1 - 1 = (M'.length : Int) := by omega
            have hm4 : IntKind.i64.wrap (M'.length : Int) = (M'.length : Int) := IntWalk.i64_in _ (by omega)
            have hm5 : (M'.length : Int) < (M'.length : Int) + 1 := by omega
            have HCQ := Lib.hid cq
            clear cq
            by_cases hqx : q = x
            · have hqx' : x = q := hqx.symm
              subst hqx'
              go_wp2_with fail
              refine wp_region_held_drew (S := (fun X : World => X.cell? ⟨bb, ob + k, none⟩ = some (.int .i64 x) ∧ X.cell? ⟨bb, ob + (k + 1), none⟩ = some (.int .i64 y) ∧ X.cell? ⟨go, M'.length * 2 + 1, none⟩ = some (.int .i64 x))) (by kernel_rfl) HS9.out (fun hHeld => ?_)
              clear hHeld
              refine wpAnyH_take (i := 0) (v := ?_) rfl (by kernel_rfl) (by kernel_rfl) (by kernel_rfl) (fun _ _ _ h => h) (Or.inl ⟨by rfl, ?_⟩) HS9.out ?_
              rotate_left
              · (intro wS hSw; (try dsimp only at hSw); go_simp; try with_reducible rfl)
              simp only [Act.put, List.getElem_toArray, List.getElem_cons_zero, List.getElem_cons_succ, List.setIfInBounds_toArray, List.set_cons_zero, List.set_cons_succ]
              refine wpAnyH_take (i := 1) (v := ?_) rfl (by kernel_rfl) (by kernel_rfl) (by kernel_rfl) (fun _ _ _ h => h) (Or.inl ⟨by rfl, ?_⟩) HS9.out ?_
              rotate_left
              · (intro wS hSw; (try dsimp only at hSw); go_simp; try with_reducible rfl)
              simp only [Act.put, List.getElem_toArray, List.getElem_cons_zero, List.getElem_cons_succ, List.setIfInBounds_toArray, List.set_cons_zero, List.set_cons_succ]
              refine wpAnyH_take (i := 2) (v := ?_) rfl (by kernel_rfl) (by kernel_rfl) (by kernel_rfl) (fun _ _ _ h => h) (Or.inl ⟨by rfl, ?_⟩) HS9.out ?_
              rotate_left
              · (intro wS hSw; (try dsimp only at hSw); go_simp; try with_reducible rfl)
              simp only [Act.put, List.getElem_toArray, List.getElem_cons_zero, List.getElem_cons_succ, List.setIfInBounds_toArray, List.set_cons_zero, List.set_cons_succ]
              refine wpAnyH_take (i := 3) (v := ?_) rfl (by kernel_rfl) (by kernel_rfl) (by kernel_rfl) (fun _ _ _ h => h) (Or.inl ⟨by rfl, ?_⟩) HS9.out ?_
              rotate_left
              · (intro wS hSw; (try dsimp only at hSw); go_simp; try with_reducible rfl)
              simp only [Act.put, List.getElem_toArray, List.getElem_cons_zero, List.getElem_cons_succ, List.setIfInBounds_toArray, List.set_cons_zero, List.set_cons_succ]
              refine wpAnyH_take (i := 4) (v := ?_) rfl (by kernel_rfl) (by kernel_rfl) (by kernel_rfl) (fun _ _ _ h => h) (Or.inl ⟨by rfl, ?_⟩) HS9.out ?_
              rotate_left
              · (intro wS hSw; (try dsimp only at hSw); go_simp; try with_reducible rfl)
              simp only [Act.put, List.getElem_toArray, List.getElem_cons_zero, List.getElem_cons_succ, List.setIfInBounds_toArray, List.set_cons_zero, List.set_cons_succ]
              refine wpAnyH_take (i := 5) (v := ?_) rfl (by kernel_rfl) (by kernel_rfl) (by kernel_rfl) (fun _ _ _ h => h) (Or.inl ⟨by rfl, ?_⟩) HS9.out ?_
              rotate_left
              · (intro wS hSw; (try dsimp only at hSw); go_simp; try with_reducible rfl)
              simp only [Act.put, List.getElem_toArray, List.getElem_cons_zero, List.getElem_cons_succ, List.setIfInBounds_toArray, List.set_cons_zero, List.set_cons_succ]
              refine wpAnyH_take (i := 6) (v := ?_) rfl (by kernel_rfl) (by kernel_rfl) (by kernel_rfl) (fun _ _ _ h => h) (Or.inl ⟨by rfl, ?_⟩) HS9.out ?_
              rotate_left
              · (intro wS hSw; (try dsimp only at hSw); go_simp; try with_reducible rfl)
              simp only [Act.put, List.getElem_toArray, List.getElem_cons_zero, List.getElem_cons_succ, List.setIfInBounds_toArray, List.set_cons_zero, List.set_cons_succ]
              refine wpAnyH_take (i := 7) (v := ?_) rfl (by kernel_rfl) (by kernel_rfl) (by kernel_rfl) (fun _ _ _ h => h) (Or.inl ⟨by rfl, ?_⟩) HS9.out ?_
              rotate_left
              · (intro wS hSw; (try dsimp only at hSw); go_simp; try with_reducible rfl)
              simp only [Act.put, List.getElem_toArray, List.getElem_cons_zero, List.getElem_cons_succ, List.setIfInBounds_toArray, List.set_cons_zero, List.set_cons_succ]
              refine wpAnyH_take (i := 8) (v := ?_) rfl (by kernel_rfl) (by kernel_rfl) (by kernel_rfl) (fun _ _ _ h => h) (Or.inl ⟨by rfl, ?_⟩) HS9.out ?_
              rotate_left
              · (intro wS hSw; (try dsimp only at hSw); go_simp; try with_reducible rfl)
              simp only [Act.put, List.getElem_toArray, List.getElem_cons_zero, List.getElem_cons_succ, List.setIfInBounds_toArray, List.set_cons_zero, List.set_cons_succ]
              refine wpAnyH_take (i := 9) (v := ?_) rfl (by kernel_rfl) (by kernel_rfl) (by kernel_rfl) (fun _ _ _ h => h) (Or.inl ⟨by rfl, ?_⟩) HS9.out ?_
              rotate_left
              · (intro wS hSw; (try dsimp only at hSw); go_simp; try with_reducible rfl)
              simp only [Act.put, List.getElem_toArray, List.getElem_cons_zero, List.getElem_cons_succ, List.setIfInBounds_toArray, List.set_cons_zero, List.set_cons_succ]
              refine wpAnyH_take (i := 10) (v := ?_) rfl (by kernel_rfl) (by kernel_rfl) (by kernel_rfl) (fun _ _ _ h => h) (Or.inl ⟨by rfl, ?_⟩) HS9.out ?_
              rotate_left
              · (intro wS hSw; (try dsimp only at hSw); go_simp; try with_reducible rfl)
              simp only [Act.put, List.getElem_toArray, List.getElem_cons_zero, List.getElem_cons_succ, List.setIfInBounds_toArray, List.set_cons_zero, List.set_cons_succ]
              refine wpAnyH_take (i := 11) (v := ?_) rfl (by kernel_rfl) (by kernel_rfl) (by kernel_rfl) (fun _ _ _ h => h) (Or.inl ⟨by rfl, ?_⟩) HS9.out ?_
              rotate_left
              · (intro wS hSw; (try dsimp only at hSw); go_simp; try with_reducible rfl)
              simp only [Act.put, List.getElem_toArray, List.getElem_cons_zero, List.getElem_cons_succ, List.setIfInBounds_toArray, List.set_cons_zero, List.set_cons_succ]
              refine wpAnyH_take (i := 12) (v := ?_) rfl (by kernel_rfl) (by kernel_rfl) (by kernel_rfl) (fun _ _ _ h => h) (Or.inl ⟨by rfl, ?_⟩) HS9.out ?_
              rotate_left
              · (intro wS hSw; (try dsimp only at hSw); go_simp; try with_reducible rfl)
              simp only [Act.put, List.getElem_toArray, List.getElem_cons_zero, List.getElem_cons_succ, List.setIfInBounds_toArray, List.set_cons_zero, List.set_cons_succ]
              refine wpAnyH_take (i := 13) (v := ?_) rfl (by kernel_rfl) (by kernel_rfl) (by kernel_rfl) (fun _ _ _ h => h) (Or.inl ⟨by rfl, ?_⟩) HS9.out ?_
              rotate_left
              · (intro wS hSw; (try dsimp only at hSw); go_simp; try with_reducible rfl)
              simp only [Act.put, List.getElem_toArray, List.getElem_cons_zero, List.getElem_cons_succ, List.setIfInBounds_toArray, List.set_cons_zero, List.set_cons_succ]
              refine wpAnyH_take (i := 14) (v := ?_) rfl (by kernel_rfl) (by kernel_rfl) (by kernel_rfl) (fun _ _ _ h => h) (Or.inl ⟨by rfl, ?_⟩) HS9.out ?_
              rotate_left
              · (intro wS hSw; (try dsimp only at hSw); go_simp; try with_reducible rfl)
              simp only [Act.put, List.getElem_toArray, List.getElem_cons_zero, List.getElem_cons_succ, List.setIfInBounds_toArray, List.set_cons_zero, List.set_cons_succ]
              refine wpAnyH_done (by kernel_rfl) ?_ _
              obtain ⟨WW, hWW⟩ : ∃ X, wr.drew = X := ⟨_, rfl⟩
              have s0 : WW.cell? ⟨go, M'.length * 2 + 1, none⟩ = some (.int .i64 x) := by rw [← hWW]; exact HCQ.out
              have s1 : WW.frozen? ⟨go, M'.length * 2 + 1, none⟩ = false := by rw [← hWW]; exact cqf
              have s2 : WW.cell? ⟨bb, ob + (k + 1), none⟩ = some (.int .i64 y) := by rw [← hWW]; exact HS.out.2
              have HOW := Lib.hid (ownM_below HI.out.1 (Below.refl wr.heap.size wr).drew)
              have HWW : Hid (Below W1.heap.size W1 wr.drew) := Lib.hid HI.out.2.drew
              rw [hWW] at HOW HWW
              try rw [hWW]
              clear hWW cqf
              go_wp2_with fail
              go_roundg (NB - (k + 1))
              case rel => exact ⟨k + 1, by omega, rfl, by go_num, Lib.hid ⟨by
                rw [mk_old (L := M') (a := p) HF.out (by rw [HMk.out, HXX.out]), HYY.out, List.length_append]
                have := ownM_put HOW.out (i := M'.length) (j := 1) (by omega) y
                rw [rowS_last] at this
                exact this, HWW.out.setCell (p := ⟨go, M'.length * 2 + 1, none⟩) hgo _⟩⟩
              case measure => omega
            · have hne : (q == x) = false := by rw [beq_eq_false_iff_ne]; exact hqx
              go_wp2_with fail
              refine wp_region_held_drew (S := (fun X : World => X.cell? ⟨bb, ob + k, none⟩ = some (.int .i64 x) ∧ X.cell? ⟨bb, ob + (k + 1), none⟩ = some (.int .i64 y) ∧ X.cell? ⟨go, M'.length * 2 + 1, none⟩ = some (.int .i64 q))) (by kernel_rfl) HS9.out (fun hHeld => ?_)
              clear hHeld
              refine wpAnyH_take (i := 0) (v := ?_) rfl (by kernel_rfl) (by kernel_rfl) (by kernel_rfl) (fun _ _ _ h => h) (Or.inl ⟨by rfl, ?_⟩) HS9.out ?_
              rotate_left
              · (intro wS hSw; (try dsimp only at hSw); go_simp; try with_reducible rfl)
              simp only [Act.put, List.getElem_toArray, List.getElem_cons_zero, List.getElem_cons_succ, List.setIfInBounds_toArray, List.set_cons_zero, List.set_cons_succ]
              refine wpAnyH_take (i := 1) (v := ?_) rfl (by kernel_rfl) (by kernel_rfl) (by kernel_rfl) (fun _ _ _ h => h) (Or.inl ⟨by rfl, ?_⟩) HS9.out ?_
              rotate_left
              · (intro wS hSw; (try dsimp only at hSw); go_simp; try with_reducible rfl)
              simp only [Act.put, List.getElem_toArray, List.getElem_cons_zero, List.getElem_cons_succ, List.setIfInBounds_toArray, List.set_cons_zero, List.set_cons_succ]
              refine wpAnyH_take (i := 2) (v := ?_) rfl (by kernel_rfl) (by kernel_rfl) (by kernel_rfl) (fun _ _ _ h => h) (Or.inl ⟨by rfl, ?_⟩) HS9.out ?_
              rotate_left
              · (intro wS hSw; (try dsimp only at hSw); go_simp; try with_reducible rfl)
              simp only [Act.put, List.getElem_toArray, List.getElem_cons_zero, List.getElem_cons_succ, List.setIfInBounds_toArray, List.set_cons_zero, List.set_cons_succ]
              refine wpAnyH_take (i := 3) (v := ?_) rfl (by kernel_rfl) (by kernel_rfl) (by kernel_rfl) (fun _ _ _ h => h) (Or.inl ⟨by rfl, ?_⟩) HS9.out ?_
              rotate_left
              · (intro wS hSw; (try dsimp only at hSw); go_simp; try with_reducible rfl)
              simp only [Act.put, List.getElem_toArray, List.getElem_cons_zero, List.getElem_cons_succ, List.setIfInBounds_toArray, List.set_cons_zero, List.set_cons_succ]
              refine wpAnyH_take (i := 4) (v := ?_) rfl (by kernel_rfl) (by kernel_rfl) (by kernel_rfl) (fun _ _ _ h => h) (Or.inl ⟨by rfl, ?_⟩) HS9.out ?_
              rotate_left
              · (intro wS hSw; (try dsimp only at hSw); go_simp; try with_reducible rfl)
              simp only [Act.put, List.getElem_toArray, List.getElem_cons_zero, List.getElem_cons_succ, List.setIfInBounds_toArray, List.set_cons_zero, List.set_cons_succ]
              refine wpAnyH_take (i := 5) (v := ?_) rfl (by kernel_rfl) (by kernel_rfl) (by kernel_rfl) (fun _ _ _ h => h) (Or.inl ⟨by rfl, ?_⟩) HS9.out ?_
              rotate_left
              · (intro wS hSw; (try dsimp only at hSw); go_simp; try with_reducible rfl)
              simp only [Act.put, List.getElem_toArray, List.getElem_cons_zero, List.getElem_cons_succ, List.setIfInBounds_toArray, List.set_cons_zero, List.set_cons_succ]
              refine wpAnyH_take (i := 6) (v := ?_) rfl (by kernel_rfl) (by kernel_rfl) (by kernel_rfl) (fun _ _ _ h => h) (Or.inl ⟨by rfl, ?_⟩) HS9.out ?_
              rotate_left
              · (intro wS hSw; (try dsimp only at hSw); go_simp; try with_reducible rfl)
              simp only [Act.put, List.getElem_toArray, List.getElem_cons_zero, List.getElem_cons_succ, List.setIfInBounds_toArray, List.set_cons_zero, List.set_cons_succ]
              refine wpAnyH_take (i := 7) (v := ?_) rfl (by kernel_rfl) (by kernel_rfl) (by kernel_rfl) (fun _ _ _ h => h) (Or.inl ⟨by rfl, ?_⟩) HS9.out ?_
              rotate_left
              · (intro wS hSw; (try dsimp only at hSw); go_simp; try with_reducible rfl)
              simp only [Act.put, List.getElem_toArray, List.getElem_cons_zero, List.getElem_cons_succ, List.setIfInBounds_toArray, List.set_cons_zero, List.set_cons_succ]
              refine wpAnyH_take (i := 8) (v := ?_) rfl (by kernel_rfl) (by kernel_rfl) (by kernel_rfl) (fun _ _ _ h => h) (Or.inl ⟨by rfl, ?_⟩) HS9.out ?_
              rotate_left
              · (intro wS hSw; (try dsimp only at hSw); go_simp; try with_reducible rfl)
              simp only [Act.put, List.getElem_toArray, List.getElem_cons_zero, List.getElem_cons_succ, List.setIfInBounds_toArray, List.set_cons_zero, List.set_cons_succ]
              refine wpAnyH_take (i := 9) (v := ?_) rfl (by kernel_rfl) (by kernel_rfl) (by kernel_rfl) (fun _ _ _ h => h) (Or.inl ⟨by rfl, ?_⟩) HS9.out ?_
              rotate_left
              · (intro wS hSw; (try dsimp only at hSw); go_simp; try with_reducible rfl)
              simp only [Act.put, List.getElem_toArray, List.getElem_cons_zero, List.getElem_cons_succ, List.setIfInBounds_toArray, List.set_cons_zero, List.set_cons_succ]
              refine wpAnyH_take (i := 10) (v := ?_) rfl (by kernel_rfl) (by kernel_rfl) (by kernel_rfl) (fun _ _ _ h => h) (Or.inl ⟨by rfl, ?_⟩) HS9.out ?_
              rotate_left
              · (intro wS hSw; (try dsimp only at hSw); go_simp; try with_reducible rfl)
              simp only [Act.put, List.getElem_toArray, List.getElem_cons_zero, List.getElem_cons_succ, List.setIfInBounds_toArray, List.set_cons_zero, List.set_cons_succ]
              refine wpAnyH_take (i := 11) (v := ?_) rfl (by kernel_rfl) (by kernel_rfl) (by kernel_rfl) (fun _ _ _ h => h) (Or.inl ⟨by rfl, ?_⟩) HS9.out ?_
              rotate_left
              · (intro wS hSw; (try dsimp only at hSw); go_simp; try with_reducible rfl)
              simp only [Act.put, List.getElem_toArray, List.getElem_cons_zero, List.getElem_cons_succ, List.setIfInBounds_toArray, List.set_cons_zero, List.set_cons_succ]
              refine wpAnyH_take (i := 12) (v := ?_) rfl (by kernel_rfl) (by kernel_rfl) (by kernel_rfl) (fun _ _ _ h => h) (Or.inl ⟨by rfl, ?_⟩) HS9.out ?_
              rotate_left
              · (intro wS hSw; (try dsimp only at hSw); go_simp; try with_reducible rfl)
              simp only [Act.put, List.getElem_toArray, List.getElem_cons_zero, List.getElem_cons_succ, List.setIfInBounds_toArray, List.set_cons_zero, List.set_cons_succ]
              refine wpAnyH_take (i := 13) (v := ?_) rfl (by kernel_rfl) (by kernel_rfl) (by kernel_rfl) (fun _ _ _ h => h) (Or.inl ⟨by rfl, ?_⟩) HS9.out ?_
              rotate_left
              · (intro wS hSw; (try dsimp only at hSw); go_simp; try with_reducible rfl)
              simp only [Act.put, List.getElem_toArray, List.getElem_cons_zero, List.getElem_cons_succ, List.setIfInBounds_toArray, List.set_cons_zero, List.set_cons_succ]
              refine wpAnyH_take (i := 14) (v := ?_) rfl (by kernel_rfl) (by kernel_rfl) (by kernel_rfl) (fun _ _ _ h => h) (Or.inl ⟨by rfl, ?_⟩) HS9.out ?_
              rotate_left
              · (intro wS hSw; (try dsimp only at hSw); go_simp; try with_reducible rfl)
              simp only [Act.put, List.getElem_toArray, List.getElem_cons_zero, List.getElem_cons_succ, List.setIfInBounds_toArray, List.set_cons_zero, List.set_cons_succ]
              refine wpAnyH_done (by kernel_rfl) ?_ _
              go_wp2_with fail
              obtain ⟨ov, hov⟩ : ∃ v, Value.slice (some ⟨go, 0, none⟩) (M'.length + 1) cap0 = v := ⟨_, rfl⟩
              rw [hov] at HI
              try rw [hov]
              clear hov
              obtain ⟨WW, hWW⟩ : ∃ X, wr.drew = X := ⟨_, rfl⟩
              have HWW : Hid (Below W1.heap.size W1 WW) := Lib.hid (by rw [← hWW]; exact HI.out.2.drew)
              have HOW : Hid (WW.ownsRow W1.heap.size 26 2 ov (M'.length + 1) (rowM 2 (zS (M' ++ [(p, q)])) (M'.length + 1))) := Lib.hid (by rw [← hWW]; exact ownM_below HI.out.1 (Below.refl _ _).drew)
              try rw [hWW]
              clear hWW
              have HSD : Hid (WW.drew.cell? ⟨bb, ob + k, none⟩ = some (.int .i64 x) ∧ WW.drew.cell? ⟨bb, ob + (k + 1), none⟩ = some (.int .i64 y)) := Lib.hid ⟨cell_on HWW.out.drew HC0.out, cell_on HWW.out.drew HC1.out⟩
              have HSE := HSD
              have hb2 : Below WW.heap.size WW ((WW.alloc (.cells #[.int .i64 x, .int .i64 y] 26)).drew) := ((Below.refl WW.heap.size WW).alloc (Nat.le_refl _) _).drew
              have HX2 : Hid (Below W1.heap.size W1 ((WW.alloc (.cells #[.int .i64 x, .int .i64 y] 26)).drew)) := Lib.hid (HWW.out.trans (hb2.mono HWW.out.size))
              have HS2 : Hid (((WW.alloc (.cells #[.int .i64 x, .int .i64 y] 26)).drew).cell? ⟨bb, ob + k, none⟩ = some (.int .i64 x) ∧ ((WW.alloc (.cells #[.int .i64 x, .int .i64 y] 26)).drew).cell? ⟨bb, ob + (k + 1), none⟩ = some (.int .i64 y)) := Lib.hid ⟨cell_on HX2.out HC0.out, cell_on HX2.out HC1.out⟩
              have HO2 := Lib.hid (ownM_below HOW.out hb2)
              have HG2 : Hid (Blk ((WW.alloc (.cells #[.int .i64 x, .int .i64 y] 26)).drew) WW.heap.size 26 #[.int .i64 x, .int .i64 y]) := Lib.hid (Blk.new WW _ _)
              clear hb2
              refine wp_region_held_drew (S := (fun X : World => X.cell? ⟨bb, ob + k, none⟩ = some (.int .i64 x) ∧ X.cell? ⟨bb, ob + (k + 1), none⟩ = some (.int .i64 y))) (by kernel_rfl) HSD.out (fun hHeld => ?_)
              clear hHeld
              refine wpAnyH_take (i := 0) (v := ?_) rfl (by kernel_rfl) (by kernel_rfl) (by kernel_rfl) (fun _ _ _ h => h) (Or.inl ⟨by rfl, ?_⟩) HSE.out ?_
              rotate_left
              · (intro wS hSw; (try dsimp only at hSw); go_simp; try with_reducible rfl)
              simp only [Act.put, List.getElem_toArray, List.getElem_cons_zero, List.getElem_cons_succ, List.setIfInBounds_toArray, List.set_cons_zero, List.set_cons_succ]
              refine wpAnyH_take (i := 1) (v := ?_) rfl (by kernel_rfl) (by kernel_rfl) (by kernel_rfl) (fun _ _ _ h => h) (Or.inl ⟨by rfl, ?_⟩) HSE.out ?_
              rotate_left
              · (intro wS hSw; (try dsimp only at hSw); go_simp; try with_reducible rfl)
              simp only [Act.put, List.getElem_toArray, List.getElem_cons_zero, List.getElem_cons_succ, List.setIfInBounds_toArray, List.set_cons_zero, List.set_cons_succ]
              refine wpAnyH_take (i := 2) (v := ?_) rfl (by kernel_rfl) (by kernel_rfl) (by kernel_rfl) (fun _ _ _ h => h) (Or.inl ⟨by rfl, ?_⟩) HSE.out ?_
              rotate_left
              · (intro wS hSw; (try dsimp only at hSw); go_simp; try with_reducible rfl)
              simp only [Act.put, List.getElem_toArray, List.getElem_cons_zero, List.getElem_cons_succ, List.setIfInBounds_toArray, List.set_cons_zero, List.set_cons_succ]
              refine wpAnyH_take (i := 3) (v := ?_) rfl (by kernel_rfl) (by kernel_rfl) (by kernel_rfl) (fun _ _ _ h => h) (Or.inl ⟨by rfl, ?_⟩) HSE.out ?_
              rotate_left
              · (intro wS hSw; (try dsimp only at hSw); go_simp; try with_reducible rfl)
              simp only [Act.put, List.getElem_toArray, List.getElem_cons_zero, List.getElem_cons_succ, List.setIfInBounds_toArray, List.set_cons_zero, List.set_cons_succ]
              refine wpAnyH_take (i := 4) (v := ?_) rfl (by kernel_rfl) (by kernel_rfl) (by kernel_rfl) (fun _ _ _ h => h) (Or.inl ⟨by rfl, ?_⟩) HSE.out ?_
              rotate_left
              · (intro wS hSw; (try dsimp only at hSw); go_simp; try with_reducible rfl)
              simp only [Act.put, List.getElem_toArray, List.getElem_cons_zero, List.getElem_cons_succ, List.setIfInBounds_toArray, List.set_cons_zero, List.set_cons_succ]
              refine wpAnyH_take (i := 5) (v := ?_) rfl (by kernel_rfl) (by kernel_rfl) (by kernel_rfl) (fun _ _ _ h => h) (Or.inl ⟨by rfl, ?_⟩) HSE.out ?_
              rotate_left
              · (intro wS hSw; (try dsimp only at hSw); go_simp; try with_reducible rfl)
              simp only [Act.put, List.getElem_toArray, List.getElem_cons_zero, List.getElem_cons_succ, List.setIfInBounds_toArray, List.set_cons_zero, List.set_cons_succ]
              refine wpAnyH_take (i := 6) (v := ?_) rfl (by kernel_rfl) (by kernel_rfl) (by kernel_rfl) (fun _ _ _ h => h) (Or.inl ⟨by rfl, ?_⟩) HSE.out ?_
              rotate_left
              · (intro wS hSw; (try dsimp only at hSw); go_simp; try with_reducible rfl)
              simp only [Act.put, List.getElem_toArray, List.getElem_cons_zero, List.getElem_cons_succ, List.setIfInBounds_toArray, List.set_cons_zero, List.set_cons_succ]
              refine wpAnyH_take (i := 7) (v := ?_) rfl (by kernel_rfl) (by kernel_rfl) (by kernel_rfl) (fun _ _ _ h => h) (Or.inl ⟨by rfl, ?_⟩) HSE.out ?_
              rotate_left
              · (intro wS hSw; (try dsimp only at hSw); go_simp; try with_reducible rfl)
              simp only [Act.put, List.getElem_toArray, List.getElem_cons_zero, List.getElem_cons_succ, List.setIfInBounds_toArray, List.set_cons_zero, List.set_cons_succ]
              refine wpAnyH_take (i := 8) (v := ?_) rfl (by kernel_rfl) (by kernel_rfl) (by kernel_rfl) (fun _ _ _ h => h) (Or.inl ⟨by rfl, ?_⟩) HSE.out ?_
              rotate_left
              · (intro wS hSw; (try dsimp only at hSw); go_simp; try with_reducible rfl)
              simp only [Act.put, List.getElem_toArray, List.getElem_cons_zero, List.getElem_cons_succ, List.setIfInBounds_toArray, List.set_cons_zero, List.set_cons_succ]
              refine wpAnyH_take (i := 9) (v := ?_) rfl (by kernel_rfl) (by kernel_rfl) (by kernel_rfl) (fun _ _ _ h => h) (Or.inl ⟨by rfl, ?_⟩) HSE.out ?_
              rotate_left
              · (intro wS hSw; (try dsimp only at hSw); go_simp; try with_reducible rfl)
              simp only [Act.put, List.getElem_toArray, List.getElem_cons_zero, List.getElem_cons_succ, List.setIfInBounds_toArray, List.set_cons_zero, List.set_cons_succ]
              refine wpAnyH_take (i := 10) (v := ?_) rfl (by kernel_rfl) (by kernel_rfl) (by kernel_rfl) (fun _ _ _ h => h) (Or.inl ⟨by rfl, ?_⟩) HSE.out ?_
              rotate_left
              · (intro wS hSw; (try dsimp only at hSw); go_simp; try with_reducible rfl)
              simp only [Act.put, List.getElem_toArray, List.getElem_cons_zero, List.getElem_cons_succ, List.setIfInBounds_toArray, List.set_cons_zero, List.set_cons_succ]
              refine wpAnyH_ready (rs := [11]) (by kernel_rfl) (by simp) ?_
              refine AllReadyH.cons rfl (fun K hK => ?_) AllReadyH.nil
              go_simp
              refine hK.out _ _ HS2.out (fun hHeld => ?_)
              clear hK K hHeld
              try simp only [Act.put, List.getElem_toArray, List.getElem_cons_zero, List.getElem_cons_succ, List.setIfInBounds_toArray, List.set_cons_zero, List.set_cons_succ]
              refine wpAnyH_ready (rs := [12]) (by kernel_rfl) (by simp) ?_
              refine AllReadyH.cons rfl (fun K hK => ?_) AllReadyH.nil
              refine step_span (by rfl) _ _ (by rfl) W1.heap.size ov (M'.length + 1) (rowM 2 (zS (M' ++ [(p, q)])) (M'.length + 1)) (by rfl) HO2.out WW.heap.size 1 x y (by rfl) HG2.out (by have := HML.out; omega) (by have := HWW.out.size; simp; omega) ?_
              intro v3 u3 p3 q3
              have HB3 : Hid (Below W1.heap.size W1 u3) := Lib.hid (HX2.out.trans q3)
              have HS3 : Hid (u3.cell? ⟨bb, ob + k, none⟩ = some (.int .i64 x) ∧ u3.cell? ⟨bb, ob + (k + 1), none⟩ = some (.int .i64 y)) := Lib.hid ⟨cell_on HB3.out HC0.out, cell_on HB3.out HC1.out⟩
              have HP3 := Lib.hid p3
              clear p3 q3
              refine hK.out _ _ HS3.out (fun hHeld => ?_)
              clear hK K hHeld
              try simp only [Act.put, List.getElem_toArray, List.getElem_cons_zero, List.getElem_cons_succ, List.setIfInBounds_toArray, List.set_cons_zero, List.set_cons_succ]
              refine wpAnyH_take (i := 13) (v := ?_) rfl (by kernel_rfl) (by kernel_rfl) (by kernel_rfl) (fun _ _ _ h => h) (Or.inl ⟨by rfl, ?_⟩) HS3.out ?_
              rotate_left
              · (intro wS hSw; (try dsimp only at hSw); go_simp; try with_reducible rfl)
              simp only [Act.put, List.getElem_toArray, List.getElem_cons_zero, List.getElem_cons_succ, List.setIfInBounds_toArray, List.set_cons_zero, List.set_cons_succ]
              refine wpAnyH_done (by kernel_rfl) ?_ _
              go_wp2_with fail
              go_roundg (NB - (k + 1))
              case rel => exact ⟨k + 1, by omega, rfl, by go_num, Lib.hid ⟨by
                  have e1 : mkA f (zat B) (k + 1) = M' ++ [(p, q)] ++ [(x, y)] := by
                    rw [mk_new HF.out (fun L p' e => by rw [HMk.out] at e; have := List.append_inj_right' e rfl; simp only [List.cons.injEq, and_true] at this; rw [← this, HXX.out]; exact hqx), HMk.out, HXX.out, HYY.out]
                  rw [e1]
                  have e2 := rowS_push (M' ++ [(p, q)]) x y
                  rw [List.length_append] at e2
                  rw [← e2, List.length_append, List.length_append]
                  exact HP3.out, HB3.out⟩⟩
              case measure => omega
        · have HF : Hid (f k = false) := Lib.hid hFk
          clear hFk
          go_wp2_with fail
          go_roundg (NB - (k + 1))
          case rel => exact ⟨k + 1, by omega, rfl, by go_num, Lib.hid (by rw [mk_no HF.out, HMk.out]; exact HI.out)⟩
          case measure => omega
    · have hk1 : ¬ (k : Int) + 1 < (NB : Int) := by omega
      have hkw : IntKind.i64.wrap ((k : Int) + 1) = (k : Int) + 1 := IntWalk.i64_in _ (by omega)
      have hkk : k = NB - 1 := by omega
      have HKK := Lib.hid hkk
      have hdd : decide ((k : Int) + 1 < (NB : Int)) = false := by simpa using hk1
      have HFIN : Hid (IsS wr _ (makeL a b 2)) := Lib.hid (by
        have e : makeL a b 2 = mkA f (zat B) k := by unfold makeL; rw [HBB.out, HNB.out, ← HKK.out, HFF.out]
        rw [e]
        refine own_isS HI.out.1 (fun p hp => ?_)
        obtain ⟨⟨j, h1, h2⟩, ⟨i, h3, h4⟩⟩ := mk_mem f (zat B) k p hp
        have hl : 0 < (mkA f (zat B) k).length := List.length_pos_of_mem hp
        have hl2 := mk_len f (zat B) k
        have hin : ∀ j, j ≤ k → zat B j ∈ B := fun j hj => at_mem (by rw [HNB.out]; omega)
        rw [h2, h4]
        exact ⟨HBW.out _ (hin j h1), HBW.out _ (hin i h3)⟩)
      have HLE : Hid ((makeL a b 2).length ≤ 2 * (a.length + b.length)) := Lib.hid (by
        have e : makeL a b 2 = mkA f (zat B) k := by unfold makeL; rw [HBB.out, HNB.out, ← HKK.out, HFF.out]
        have := mk_len f (zat B) k
        have := HLB.out
        rw [e]; omega)
      clear hkk hk
      go_wp2_with fail
      rw [← HR.out]
      exact ⟨_, rfl, HFIN.out, HE1.out.trans (HI.out.2.mono HE1.out.size), HLE.out⟩
end Go.Proofs.Ytiinlidilkdfbaa
