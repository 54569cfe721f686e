/- Columns: cols.Widths. -/
import Derived.Test.YtkonghjmipclmaaDoorRows
import Derived.Test.YtkonghjmipclmaaDoorRowKit
import Derived.Test.YtkonghjmipclmaaDoorShelf
import Derived.Test.YtkonghjmipclmaaDoorBlocks
import Derived.Test.YtkonghjmipclmaaDoorSlicesEq
import Derived.Test.YtkonghjmipclmaaDoorRowT
import Derived.Test.YtkonghjmipclmaaDoorDigE
import Derived.Test.YtkonghjmipclmaaDoorBuA
import Derived.Test.YtkonghjmipclmaaDoorColM
import Derived.Test.YtkonghjmipclmaaDoorRowL
import Derived.Test.YtkonghjmipclmaaDoorColG
import Derived.Laws.MakeOwn
import Derived.WalkKit
import Derived.IntWalk
import Derived.Lib.Hide
import Derived.WalkSpells
import Derived.WalkLawsBesides
import Derived.Laws.IdiomStrings
import Derived.Laws.OwnMore
import Derived.OwnWalk
import Derived.Deep.QuietTactic
import Derived.BigQuiet
import Derived.BigRegion
import Derived.Deep.LoopGhost
namespace Go.Proofs.YtkonghjmipclmaaDoor
open Go.RowKit Go.Sort
set_option linter.unusedSimpArgs false
set_option linter.unusedVariables false
/-- a width at place j becomes at least l -/
def wdSt (p : Nat × (Nat → Int)) (j : Nat) (l : Int) : Nat × (Nat → Int) :=
  if j = p.1 then (p.1 + 1, fun i => if i = j then max 0 l else p.2 i) else (p.1, fun i => if i = j then max (p.2 j) l else p.2 i)
def wdRow (p : Nat × (Nat → Int)) (t : Nat → ByteArray) : Nat → Nat × (Nat → Int)
  | 0 => p
  | j + 1 => wdSt (wdRow p t j) j (t j).size
def wdCols (n : Nat → Nat) (tb : Nat → Nat → ByteArray) : Nat → Nat × (Nat → Int)
  | 0 => (0, fun _ => 0)
  | i + 1 => wdRow (wdCols n tb i) (tb i) (n i)
theorem wdRow_len (p : Nat × (Nat → Int)) (t : Nat → ByteArray) : ∀ j, (wdRow p t j).1 = max p.1 j
  | 0 => by unfold wdRow; omega
  | j + 1 => by
    have ih := wdRow_len p t j
    show (wdSt (wdRow p t j) j (t j).size).1 = _
    unfold wdSt
    by_cases h : j = (wdRow p t j).1
    · rw [if_pos h]
      show (wdRow p t j).1 + 1 = _
      omega
    · rw [if_neg h]
      show (wdRow p t j).1 = _
      omega
def Wb (p : Nat × (Nat → Int)) (M : Int) : Prop := ∀ i, i < p.1 → 0 ≤ p.2 i ∧ p.2 i ≤ M
theorem Wb.st {p : Nat × (Nat → Int)} {M : Int} (h : Wb p M) {j : Nat} {l : Int} (hj : j ≤ p.1) (h0 : 0 ≤ l) (h1 : l ≤ M) : Wb (wdSt p j l) M := by
  intro i hi
  unfold wdSt at hi ⊢
  by_cases e : j = p.1
  · rw [if_pos e] at hi ⊢
    show 0 ≤ (if i = j then max 0 l else p.2 i) ∧ (if i = j then max 0 l else p.2 i) ≤ M
    by_cases q : i = j
    · rw [if_pos q]; omega
    · rw [if_neg q]
      have hi' : i < p.1 + 1 := hi
      exact h i (by omega)
  · rw [if_neg e] at hi ⊢
    have hi' : i < p.1 := hi
    have h2 := h i hi'
    show 0 ≤ (if i = j then max (p.2 j) l else p.2 i) ∧ (if i = j then max (p.2 j) l else p.2 i) ≤ M
    by_cases q : i = j
    · subst q
      rw [if_pos rfl]; omega
    · rw [if_neg q]; exact h2
theorem Wb.row {p : Nat × (Nat → Int)} {M : Int} {t : Nat → ByteArray} (h : Wb p M) : ∀ j, (∀ i, i < j → ((t i).size : Int) ≤ M) → Wb (wdRow p t j) M
  | 0, _ => h
  | j + 1, hs => (Wb.row h j (fun i hi => hs i (by omega))).st (by rw [wdRow_len]; omega) (by omega) (hs j (by omega))
theorem wdCols_b {n : Nat → Nat} {tb : Nat → Nat → ByteArray} {M : Int} : ∀ k, (∀ i, i < k → ∀ j, j < n i → ((tb i j).size : Int) ≤ M) → Wb (wdCols n tb k) M
  | 0, _ => fun i hi => absurd hi (Nat.not_lt_zero _)
  | k + 1, h => (wdCols_b k (fun i hi => h i (by omega))).row (n k) (h k (by omega))
theorem wdCols_len {n : Nat → Nat} {tb : Nat → Nat → ByteArray} {m : Nat} : ∀ k, (∀ i, i < k → n i ≤ m) → (wdCols n tb k).1 ≤ m
  | 0, _ => Nat.zero_le _
  | k + 1, h => by
    show (wdRow (wdCols n tb k) (tb k) (n k)).1 ≤ m
    rw [wdRow_len]
    have := wdCols_len (tb := tb) (m := m) k (fun i hi => h i (by omega))
    have := h k (by omega)
    omega
def WidR (B : Nat) (wr : World) (v : Value) (p : Nat × (Nat → Int)) : Prop := wr.ownsRow B 3 1 v p.1 ((rowL p.2 p.1).map (Value.int .i64))
theorem wid_put {B g cap m j : Nat} {wr : World} {z : Nat → Int} (h : WidR B wr (.slice (some ⟨g, 0, none⟩) m cap) (m, z)) (u : Int) : WidR B (wr.setCell ⟨g, j, none⟩ (.int .i64 u)) (.slice (some ⟨g, 0, none⟩) m cap) (m, fun i => if i = j then u else z i) := by
  have := (World.ownsRow.stored h j (.int .i64 u)).1
  rw [← List.map_set, rowL_set] at this
  exact this
theorem wid_app {B m : Nat} {wr : World} {v : Value} {z : Nat → Int} (h : wr.ownsRow B 3 1 v (m + 1) ((rowL z m).map (Value.int .i64) ++ [.int .i64 0])) : WidR B wr v (m + 1, fun i => if i = m then 0 else z i) := by
  unfold WidR
  show wr.ownsRow B 3 1 v (m + 1) ((rowL (fun i => if i = m then 0 else z i) (m + 1)).map (Value.int .i64))
  rw [rowL_succ, List.map_append, show rowL (fun i => if i = m then 0 else z i) m = rowL z m from rowL_congr fun i hi => if_neg (by omega)]
  simpa using h
theorem wid_cell {B g cap m j : Nat} {wr : World} {z : Nat → Int} (h : WidR B wr (.slice (some ⟨g, 0, none⟩) m cap) (m, z)) (hj : j < m) : wr.cell? ⟨g, j, none⟩ = some (.int .i64 (z j)) := ownR_cell (a := z) h hj
theorem wid_head {B : Nat} {wr : World} {v : Value} {p : Nat × (Nat → Int)} (h : WidR B wr v p) (hn : 0 < p.1) : ∃ g cap, v = .slice (some ⟨g, 0, none⟩) p.1 cap ∧ B ≤ g ∧ p.1 ≤ cap := ownR_head h hn
theorem coliInfo : (Tryd.prog.info? 3).map (fun i => (i.zero, i.size, i.bytes)) = some (some (.int .i64 0), 1, 8) := by kernel_rfl
set_option maxRecDepth 100000 in
set_option maxHeartbeats 20000000 in
theorem widths_any (Ro : Option Addr) (cr N : Nat) (A : Nat → Option Addr) (n c : Nat → Nat) (tb : Nat → Nat → ByteArray) (w : World) (hr : RdTT w Ro N A n c tb) (hN : N ≤ 1000) (hn : ∀ i, i < N → n i ≤ 1000) (hs : ∀ i, i < N → ∀ j, j < n i → (tb i j).size ≤ 1000) :
    Calls Tryd.prog 8 #[.slice Ro N cr] w fun e w' => ∃ v, e = .returned v ∧ WidR w.heap.size w' v (wdCols n tb N) ∧ Below w.heap.size w w' := by
  obtain ⟨i0, hi, hz0, hz1, hz2⟩ := info_parts coliInfo
  have HR := Lib.hid hr; have HN := Lib.hid hn; have HS := Lib.hid hs
  obtain ⟨B, hB⟩ : ∃ B, w.heap.size = B := ⟨_, rfl⟩
  have HBB := Lib.hid hB
  obtain ⟨R, hR⟩ : ∃ R : Ending → World → Prop, (fun (e : Ending) (w' : World) => ∃ v, e = .returned v ∧ WidR B w' v (wdCols n tb N) ∧ Below B w w') = R := ⟨_, rfl⟩
  rw [hB]
  have HRR := Lib.hid hR
  rw [hR]
  have E0 : Hid (Below B w w) := Lib.hid (Below.refl _ _)
  clear hr hn hs hR hB
  go_enter Tryd.func8, Tryd.ntmps8
  go_wp2_with fail
  go_loopg [3, 10] N (fun gh v iv wr => ∃ k : Nat, k ≤ N ∧ gh = N - k ∧ iv = .int .i64 k ∧ Hid (WidR B wr v (wdCols n tb k)) ∧ Hid (Below B w wr))
  case atStart => exact ⟨0, by omega, rfl, rfl, Lib.hid (World.ownsRow_nil ..), E0⟩
  case round =>
    clear E0
    obtain ⟨k, hk, rfl, rfl, HW, EE⟩ := hrel
    rename World => V
    by_cases hkn : k < N
    · have hki : (k : Int) < (N : Int) := by omega
      obtain ⟨b, o, rfl, hb, c00, hl, ht⟩ := HR.out k hkn
      have c0 := (EE.out.cell (p := ⟨b, o + k, none⟩) (by rw [← HBB.out]; exact hb)).trans c00
      have HT := Lib.hid ht
      have hn1 := HN.out k hkn
      have HSK := Lib.hid (HS.out k hkn)
      have HNX : Hid (wdCols n tb (k + 1) = wdRow (wdCols n tb k) (tb k) (n k)) := Lib.hid rfl
      obtain ⟨p, hp⟩ : ∃ p, wdCols n tb k = p := ⟨_, rfl⟩
      obtain ⟨m, hm⟩ : ∃ m, n k = m := ⟨_, rfl⟩
      obtain ⟨ck, hck⟩ : ∃ ck, c k = ck := ⟨_, rfl⟩
      obtain ⟨Ak, hA⟩ : ∃ Ak, A k = Ak := ⟨_, rfl⟩
      obtain ⟨t, htb⟩ : ∃ t, tb k = t := ⟨_, rfl⟩
      rw [hp] at HW HNX
      rw [hm, htb] at HNX HSK HT
      rw [hA] at HT
      rw [hm] at hn1 hl
      rw [hm, hck, hA] at c0
      have HP := Lib.hid hp
      clear hp hm hck hA htb ht hb c00 hl
      go_wp2_with fail
      go_loopg [3, 16] m (fun gh v iv wr => ∃ j : Nat, j ≤ m ∧ gh = m - j ∧ iv = .int .i64 j ∧ Hid (WidR B wr v (wdRow p t j)) ∧ Hid (Below B w wr))
      case atStart => exact ⟨0, by omega, rfl, rfl, HW, EE⟩
      case round =>
        clear HW EE c0
        obtain ⟨j, hj, rfl, rfl, HW, EE⟩ := hrel
        rename World => X
        by_cases hjm : j < m
        · have hji : (j : Int) < (m : Int) := by omega
          obtain ⟨ba, oa, rfl, hlt, hca⟩ := rdT_row HT.out (by omega)
          have c1 := (EE.out.cell (p := ⟨ba, oa + j, none⟩) (by rw [← HBB.out]; exact hlt)).trans (hca j hjm)
          have HC1 := Lib.hid (hca j hjm)
          have HLT := Lib.hid hlt
          have hsz := HSK.out j hjm
          have hlen := wdRow_len p t j
          have HST : Hid (wdRow p t (j + 1) = wdSt (wdRow p t j) j (t j).size) := Lib.hid rfl
          obtain ⟨P, hP⟩ : ∃ P, wdRow p t j = P := ⟨_, rfl⟩
          rw [hP] at HW HST hlen
          obtain ⟨q, z⟩ := P
          obtain ⟨s, hs⟩ : ∃ s, t j = s := ⟨_, rfl⟩
          rw [hs] at c1 hsz HST
          have hjq : j ≤ q := by have e : q = max p.1 j := hlen; omega
          have hq : q ≤ 100000 ∨ 100000 < q := by omega
          clear hP hs hca hlt hlen
          obtain ⟨vA, vc, hv⟩ : ∃ (a : Option Addr) (cap : Nat), u3 = .slice a q cap := by
            rcases HW.out.2 with ⟨e, h0⟩ | ⟨g, cap, _, e, _⟩
            · have h0' : q = 0 := h0
              exact ⟨none, 0, by rw [h0']; exact e⟩
            · exact ⟨_, cap, e⟩
          subst hv
          by_cases hjq2 : j = q
          · have HE := Lib.hid hjq2
            subst hjq2
            have hdec : ((j : Int) == (j : Int)) = true := by simp
            have hsX : B ≤ X.heap.size := by have := EE.out.size; have := HBB.out; omega
            have HOW : X.ownsRow B 3 1 (.slice vA j vc) j ((rowL z j).map (Value.int .i64)) := HW.out
            go_wp2_with (at_builtin; go_loud (refine wpList_append_own _ rfl _ _ 25 rfl B 3 i0 (.int .i64 0) 1 8 Tryd.underlying25 hi hz0 hz1 hz2 rfl (by decide) _ _ _ rfl (HOW.alloc _) ⟨_, 0, none⟩ 1 1 [.int .i64 0] rfl rfl one_newR (by intro u hu; simp at hu; subst hu; rfl) (by unfold maxLen; omega) (by omega) (by simp; omega) ?_; intro v' w1 hown' hgrow _))
            have HW1 := Lib.hid (wid_app hown')
            have E1 : Hid (Below B w w1) := Lib.hid ((EE.out.alloc hsX _).grown hgrow (by simp; omega) (fun g hg => by
              first | exact ownR_ge HW.out hg | exact ownR_ge HW.out hg.symm))
            clear hown' hgrow HW EE HOW
            obtain ⟨g, cap, rfl, hg, hcap⟩ := wid_head HW1.out (Nat.succ_pos _)
            have fz := World.ownsRow.frozenAt HW1.out j
            have c2 : w1.cell? ⟨g, j, none⟩ = some (.int .i64 0) := by
              have := wid_cell HW1.out (Nat.lt_succ_self j)
              simpa using this
            have HW2 := Lib.hid (wid_put (j := j) HW1.out (max 0 (s.size : Int)))
            have E2 := Lib.hid (E1.out.setCell (p := ⟨g, j, none⟩) hg (.int .i64 (max 0 (s.size : Int))))
            have HW3 : Hid (WidR B (w1.setCell ⟨g, j, none⟩ (.int .i64 (max 0 (s.size : Int)))) (.slice (some ⟨g, 0, none⟩) (j + 1) cap) (wdRow p t (j + 1))) := Lib.hid (by
              rw [HST.out]
              unfold wdSt
              rw [if_pos rfl]
              have e : (fun i => if i = j then max 0 (s.size : Int) else if i = j then 0 else z i) = fun i => if i = j then max 0 (s.size : Int) else z i := by
                funext i
                by_cases q : i = j
                · rw [if_pos q, if_pos q]
                · rw [if_neg q, if_neg q, if_neg q]
              have h := HW2.out
              rw [e] at h
              exact h)
            have c1' := (E1.out.cell (p := ⟨ba, oa + j, none⟩) (by rw [← HBB.out]; exact HLT.out)).trans HC1.out
            go_wp2_with fail
            go_roundg (m - (j + 1))
            case measure => omega
            case rel => exact ⟨j + 1, by omega, rfl, by go_num, HW3, E2⟩
          · have hdec : ((j : Int) == (q : Int)) = false := by rw [beq_eq_false_iff_ne]; omega
            have hjlt : j < q := by omega
            have HE := Lib.hid hjq2
            obtain ⟨g, cap, hvv, hg, hcap⟩ := wid_head HW.out (by show 0 < q; omega)
            obtain ⟨rfl, rfl⟩ : vA = some ⟨g, 0, none⟩ ∧ vc = cap := by injection hvv with h1 _ h2; exact ⟨h1, h2⟩
            have fz := World.ownsRow.frozenAt HW.out j
            have c2 := wid_cell HW.out hjlt
            obtain ⟨x, hx⟩ : ∃ x, z j = x := ⟨_, rfl⟩
            rw [hx] at c2
            have HW2 := Lib.hid (wid_put (j := j) HW.out (max x (s.size : Int)))
            have E2 := Lib.hid (EE.out.setCell (p := ⟨g, j, none⟩) hg (.int .i64 (max x (s.size : Int))))
            have HW3 : Hid (WidR B (X.setCell ⟨g, j, none⟩ (.int .i64 (max x (s.size : Int)))) (.slice (some ⟨g, 0, none⟩) q vc) (wdRow p t (j + 1))) := Lib.hid (by
              rw [HST.out]
              unfold wdSt
              rw [if_neg HE.out]
              have h := HW2.out
              rw [← hx] at h
              rw [← hx]
              exact h)
            clear hx hjq2
            go_wp2_with fail
            go_roundg (m - (j + 1))
            case measure => omega
            case rel => exact ⟨j + 1, by omega, rfl, by go_num, HW3, E2⟩
        · obtain rfl : j = m := by omega
          have HW2 : Hid (WidR B X u3 (wdCols n tb (k + 1))) := Lib.hid (by rw [HNX.out]; exact HW.out)
          go_wp2_with fail
          go_roundg (N - (k + 1))
          case measure => omega
          case rel => exact ⟨k + 1, by omega, rfl, by go_num, HW2, EE⟩
    · obtain rfl : k = N := by omega
      go_wp2_with fail
      rw [← HRR.out]
      exact ⟨_, rfl, HW.out, EE.out⟩
end Go.Proofs.YtkonghjmipclmaaDoor
