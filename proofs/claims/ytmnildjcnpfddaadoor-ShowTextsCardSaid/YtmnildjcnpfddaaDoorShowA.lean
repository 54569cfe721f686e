/- Scenarios as texts: a line, of both. -/
import Derived.Test.YtmnildjcnpfddaaDoorRows
import Derived.Test.YtmnildjcnpfddaaDoorRowKit
import Derived.Test.YtmnildjcnpfddaaDoorShelf
import Derived.Test.YtmnildjcnpfddaaDoorRowS
import Derived.Test.YtmnildjcnpfddaaDoorRowZ
import Derived.Test.YtmnildjcnpfddaaDoorRowL
import Derived.Test.YtmnildjcnpfddaaDoorRowM
import Derived.Test.YtmnildjcnpfddaaDoorBlocks
import Derived.Test.YtmnildjcnpfddaaDoorBL
import Derived.Test.YtmnildjcnpfddaaDoorTab
import Derived.Test.YtmnildjcnpfddaaDoorDigB
import Derived.Lib.ItoaLen
import Derived.Lib.Join
import Derived.WalkKit
import Derived.IntWalk
import Derived.Lib.Hide
import Derived.WalkSpells
import Derived.WalkLawsBesides
import Derived.Laws.IdiomStrings
import Derived.Laws.OwnMore
import Derived.Laws.MakeOwn
import Derived.OwnWalk
import Derived.Deep.QuietTactic
import Derived.BigQuiet
import Derived.BigRegion
import Derived.Deep.LoopGhost
namespace Go.Proofs.YtmnildjcnpfddaaDoor
open Go.RowKit Go.Sort
set_option linter.unusedSimpArgs false
set_option linter.unusedVariables false
/-- a line: what it begins with, numbers, a byte 10 -/
def nmsL (z : Nat → Int) (k : Nat) : List UInt8 := (List.range k).flatMap (fun i => 32 :: Lib.itoa (z i))
def lnS (b : List UInt8) (z : Nat → Int) (k : Nat) : List UInt8 := b ++ nmsL z k ++ [10]
theorem nmsL_succ (z : Nat → Int) (k : Nat) : nmsL z (k + 1) = nmsL z k ++ 32 :: Lib.itoa (z k) := by unfold nmsL; rw [List.range_succ, List.flatMap_append]; simp
def WfZ (z : Nat → Int) (k : Nat) : Prop := ∀ i, i < k → -9223372036854775808 ≤ z i ∧ z i ≤ 9223372036854775807
theorem nmsL_len (z : Nat → Int) : ∀ k, WfZ z k → (nmsL z k).length ≤ 22 * k
  | 0, _ => by simp [nmsL]
  | k + 1, h => by
    have ih := nmsL_len z k (fun i hi => h i (by omega))
    have h1 := h k (by omega)
    have := Lib.itoa_length_le (z k) h1.1 h1.2
    rw [nmsL_succ, List.length_append, List.length_cons]; omega
theorem dofB_any (n : Int) (w : World) (ht : Tab w) (h0 : -9223372036854775808 ≤ n) (h1 : n ≤ 9223372036854775807) :
    Calls Tryd.prog 17 #[.int .i64 n] w fun e w' => e = .returned (.string (bL (Lib.itoa n))) ∧ Below w.heap.size w w' :=
  (of_any n w h0 h1 ht).mono fun e w' ⟨he, k, os, hw⟩ => ⟨he, by rw [hw]; exact below_grow (below_drewN (Below.refl _ _) _) (Nat.le_refl _) os⟩
theorem rofB_any (n : Int) (w : World) (h0 : -9223372036854775808 ≤ n) (h1 : n ≤ 9223372036854775807) :
    Calls Tryd.prog 18 #[.int .i64 n] w fun e w' => e = .returned (.string (bL (Lib.itoa n))) ∧ Below w.heap.size w w' := rof_any n w h0 h1
theorem strInfo : (Tryd.prog.info? 9).map (fun i => (i.zero, i.size, i.bytes)) = some (some (.string ByteArray.empty), 1, 16) := by kernel_rfl
/-- the parts of a line -/
def prL (b : List UInt8) (z : Nat → Int) (k : Nat) : List (List UInt8) := b :: (List.range k).map (fun i => Lib.itoa (z i))
theorem prL_len (b : List UInt8) (z : Nat → Int) (k : Nat) : (prL b z k).length = k + 1 := by simp [prL]
theorem prL_succ (b : List UInt8) (z : Nat → Int) (k : Nat) : prL b z (k + 1) = prL b z k ++ [Lib.itoa (z k)] := by simp [prL, List.range_succ]
theorem prL_join (b : List UInt8) (z : Nat → Int) : ∀ k, Lib.join (prL b z k) [32] = b ++ nmsL z k
  | 0 => by simp [prL, nmsL, Lib.join, List.intercalate]
  | k + 1 => by
    have ih := prL_join b z k
    rw [nmsL_succ, prL_succ]
    have hj : ∀ (L : List (List UInt8)) (x : List UInt8), L ≠ [] → Lib.join (L ++ [x]) [32] = Lib.join L [32] ++ 32 :: x := by
      intro L x
      induction L with
      | nil => intro h; exact absurd rfl h
      | cons a L ih =>
        intro _
        cases L with
        | nil => simp [Lib.join, List.intercalate]
        | cons c L =>
          have h2 := ih (by simp)
          simp only [Lib.join, List.intercalate] at h2 ⊢
          simp only [List.cons_append, List.intersperse_cons_cons, List.flatten_cons] at h2 ⊢
          rw [h2]
          simp [List.append_assoc]
    rw [hj _ _ (by simp [prL]), ih, List.append_assoc]
def strV (l : List UInt8) : Value := .string (bL l)
theorem own_first {w : World} {g : Nat} {v : Value} (h : Blk w g 9 #[v]) (hB : w.heap.size ≤ w.heap.size) (B : Nat) (hg : B ≤ g) : w.ownsRow B 9 1 (.slice (some ⟨g, 0, none⟩) 1 1) 1 [v] :=
  ⟨rfl, Or.inr ⟨g, 1, #[v], rfl, hg, h, Nat.le_refl _, by decide, rfl, rfl⟩⟩
set_option maxRecDepth 100000 in
set_option maxHeartbeats 8000000 in
theorem pline_any (b : List UInt8) (A : Option Addr) (c n : Nat) (z : Nat → Int) (w : World) (ht : Tab w) (hn : n ≤ 8) (hb : b.length ≤ 100) (hz : WfZ z n) (hA : 0 < n → ∃ g o, A = some ⟨g, o, none⟩ ∧ g < w.heap.size ∧ ∀ i, i < n → w.cell? ⟨g, o + i, none⟩ = some (.int .i64 (z i))) :
    Calls Tryd.prog 14 #[.string (bL b), .slice A n c] w fun e w' => e = .returned (.string (bL (lnS b z n))) ∧ Below w.heap.size w w' := by
  obtain ⟨i0, hi, hz0, hz1, hz2⟩ := info_parts strInfo
  have HT := Lib.hid ht; have HA := Lib.hid hA; have HZ := Lib.hid hz; have HI := Lib.hid hi
  obtain ⟨Q, hQ⟩ : ∃ Q : Ending → World → Prop, (fun (e : Ending) (w' : World) => e = .returned (.string (bL (lnS b z n))) ∧ Below w.heap.size w w') = Q := ⟨_, rfl⟩
  rw [hQ]
  have HQ : Hid (∀ w', Below w.heap.size w w' → Q (.returned (.string (bL (lnS b z n)))) w') := Lib.hid (fun w' h => by rw [← hQ]; exact ⟨rfl, h⟩)
  have HLN := nmsL_len z n hz
  have HFIN : Hid (bL (b ++ nmsL z n) ++ ByteArray.mk #[10] = bL (lnS b z n)) := Lib.hid (by
    unfold lnS bL
    apply ByteArray.ext; apply Array.ext'; simp)
  have HSZ : Hid ((bL (b ++ nmsL z n)).size ≤ 300) := Lib.hid (by rw [bL_size, List.length_append]; omega)
  obtain ⟨bb, hbb⟩ : ∃ bb, bL b = bb := ⟨_, rfl⟩
  rw [hbb]
  have HBB := Lib.hid hbb
  have B0 := Blk.new w #[.string bb] 9
  have O0 : Hid ((w.alloc (.cells #[.string bb] 9)).ownsRow w.heap.size 9 1 (.slice (some ⟨w.heap.size, 0, none⟩) 1 1) 1 ((prL b z 0).map strV)) := Lib.hid (by
    have h := own_first B0 (Nat.le_refl _) w.heap.size (Nat.le_refl _)
    show World.ownsRow _ _ _ _ _ _ [Value.string (bL b)]
    rw [hbb]; exact h)
  have E0 := Lib.hid ((Below.refl w.heap.size w).alloc (Nat.le_refl _) (.cells #[.string bb] 9))
  clear hQ ht hA hz hbb B0 HLN hi
  go_enter Tryd.func14, Tryd.ntmps14
  go_wp2_with fail
  go_loopg [5, 12] n (fun gh v iv wr => ∃ k : Nat, k ≤ n ∧ gh = n - k ∧ iv = .int .i64 k ∧ Hid (wr.ownsRow w.heap.size 9 1 v (k + 1) ((prL b z k).map strV)) ∧ Hid (Below w.heap.size w wr))
  case atStart => exact ⟨0, Nat.zero_le _, rfl, rfl, O0, E0⟩
  case round =>
    clear O0 E0
    obtain ⟨k, hk, rfl, rfl, HO, EE⟩ := hrel
    rename World => V
    by_cases hkn : k < n
    · have hki : (k : Int) < (n : Int) := by omega
      obtain ⟨g, o, rfl, hg, hc⟩ := HA.out (by omega)
      have c0 := (EE.out.cell (p := ⟨g, o + k, none⟩) hg).trans (hc k hkn)
      have hzk := HZ.out k hkn
      have KD := Lib.hid (dofB_any (z k) V (tab_next HT.out EE.out) hzk.1 hzk.2)
      obtain ⟨x, hx⟩ : ∃ x, z k = x := ⟨_, rfl⟩
      obtain ⟨r, hr⟩ : ∃ r, bL (Lib.itoa x) = r := ⟨_, rfl⟩
      rw [hx] at c0 KD
      rw [hr] at KD
      have HR : Hid (strV (Lib.itoa (z k)) = .string r) := Lib.hid (by unfold strV; rw [hx, hr])
      clear hc hzk hx hr hg
      go_wp2_with fail
      refine KD.out.mono ?_
      rintro e V1 ⟨rfl, hb1⟩
      have HO1 := Lib.hid (ownM_below HO.out hb1)
      have E1 := Lib.hid (EE.out.trans (hb1.mono EE.out.size))
      have hsX : w.heap.size ≤ V1.heap.size := E1.out.size
      clear hb1 KD c0 HO
      go_wp2_with (at_builtin; go_loud (refine wpList_append_own _ rfl _ _ 54 rfl w.heap.size 9 i0 (.string ByteArray.empty) 1 16 Tryd.underlying54 HI.out hz0 hz1 hz2 rfl (by decide) _ _ _ rfl (HO1.out.alloc _) ⟨_, 0, none⟩ 1 1 [.string r] rfl rfl one_newR (by intro u hu; simp at hu; subst hu; rfl) (by unfold maxLen; omega) (by omega) (by simp; omega) ?_; intro v' V2 hown' hgrow _))
      have HO2 : Hid (V2.ownsRow w.heap.size 9 1 v' (k + 1 + 1) ((prL b z (k + 1)).map strV)) := Lib.hid (by
        rw [prL_succ, List.map_append, List.map_singleton, HR.out]
        exact hown')
      have E2 := Lib.hid ((E1.out.alloc hsX _).grown hgrow (by simp; omega) (fun g hg => by
        first | exact ownR_ge HO1.out hg | exact ownR_ge HO1.out hg.symm))
      clear hown' hgrow HO1
      go_wp2_with fail
      go_roundg (n - (k + 1))
      case measure => omega
      case rel => exact ⟨k + 1, by omega, rfl, by go_num, HO2, E2⟩
    · obtain rfl : k = n := by omega
      have hki : ¬ (k : Int) < (k : Int) := by omega
      obtain ⟨g, cap, hv, hg, hcap⟩ := ownR_head HO.out (Nat.succ_pos _)
      have hcells : ∀ (j : Nat) (x : ByteArray), ((prL b z k).map bL)[j]? = some x → V.cell? ⟨g, 0 + j, none⟩ = some (.string x) := fun j x hj => by
        have h' := HO.out
        rw [hv] at h'
        have hjl : j < k + 1 := by
          have := (List.getElem?_eq_some_iff.1 hj).1
          rw [List.length_map, prL_len] at this; exact this
        rw [Nat.zero_add, h'.cellAt j (by omega)]
        rw [List.getElem?_map] at hj ⊢
        cases hq : (prL b z k)[j]? with
        | none => rw [hq] at hj; cases hj
        | some l => rw [hq] at hj; simp at hj; subst hj; rfl
      have hglt : g < V.heap.size := by
        have h' := HO.out
        rw [hv] at h'
        exact (h'.lt g rfl).2
      have hll : ((prL b z k).map bL).map (·.data.toList) = prL b z k := by
        rw [List.map_map]
        have : ((fun x : ByteArray => x.data.toList) ∘ bL) = id := by funext l; rfl
        rw [this, List.map_id]
      have KJ := Tryd.strings_Join g 0 cap ((prL b z k).map bL) ⟨#[32]⟩ V hcells hglt (by rw [List.length_map, prL_len]; omega) (by rw [List.length_map, prL_len]; exact hcap) (by
        rw [hll]
        show (Lib.join (prL b z k) [32]).length ≤ _
        rw [prL_join]
        have := HSZ.out
        rw [bL_size] at this
        omega)
      rw [hll] at KJ
      change Calls Tryd.prog _ _ _ (fun e w' => e = .returned (.string (bL (Lib.join (prL b z k) [32]))) ∧ _) at KJ
      rw [prL_join, List.length_map, prL_len] at KJ
      have KJ := Lib.hid KJ
      obtain ⟨t, htt⟩ : ∃ t, bL (b ++ nmsL z k) = t := ⟨_, rfl⟩
      rw [htt] at KJ HFIN HSZ
      have hsz := HSZ.out
      have y1 : ¬ 9223372036854775807 < t.size + 1 := by omega
      subst hv
      clear hcells hglt hll htt hg hcap
      go_wp2_with fail
      refine KJ.out.mono ?_
      rintro e V1 ⟨rfl, hb1⟩
      have E1 := Lib.hid (EE.out.trans (hb1.mono EE.out.size))
      clear hb1
      go_wp2_with fail
      rw [HFIN.out]
      exact HQ.out _ E1.out
set_option maxRecDepth 100000 in
set_option maxHeartbeats 8000000 in
theorem dline_any (b : List UInt8) (A : Option Addr) (c n : Nat) (z : Nat → Int) (w : World) (hn : n ≤ 8) (hb : b.length ≤ 100) (hz : WfZ z n) (hA : 0 < n → ∃ g o, A = some ⟨g, o, none⟩ ∧ g < w.heap.size ∧ ∀ i, i < n → w.cell? ⟨g, o + i, none⟩ = some (.int .i64 (z i))) :
    Calls Tryd.prog 16 #[.string (bL b), .slice A n c] w fun e w' => e = .returned (.string (bL (lnS b z n))) ∧ Below w.heap.size w w' := by
  have HA := Lib.hid hA; have HZ := Lib.hid hz
  obtain ⟨Q, hQ⟩ : ∃ Q : Ending → World → Prop, (fun (e : Ending) (w' : World) => e = .returned (.string (bL (lnS b z n))) ∧ Below w.heap.size w w') = Q := ⟨_, rfl⟩
  rw [hQ]
  have HQ : Hid (∀ w', Below w.heap.size w w' → Q (.returned (.string (bL (lnS b z n)))) w') := Lib.hid (fun w' h => by rw [← hQ]; exact ⟨rfl, h⟩)
  have HLN : Hid (∀ k, k ≤ n → (b ++ nmsL z k).length ≤ 300) := Lib.hid (fun k hk => by
    have := nmsL_len z k (fun i hi => hz i (by omega))
    rw [List.length_append]; omega)
  have HFIN : Hid (∀ t, t = bL (b ++ nmsL z n) → t ++ ByteArray.mk #[10] = bL (lnS b z n)) := Lib.hid (fun t ht => by
    rw [ht]
    unfold lnS bL
    apply ByteArray.ext; apply Array.ext'; simp)
  have E0 := Lib.hid (Below.refl w.heap.size w)
  obtain ⟨bb, hbb⟩ : ∃ bb, bL b = bb := ⟨_, rfl⟩
  rw [hbb]
  have H0 : Hid (bb = bL (b ++ nmsL z 0)) := Lib.hid (by rw [← hbb]; simp [nmsL])
  clear hQ hA hz hbb
  go_enter Tryd.func16, Tryd.ntmps16
  go_wp2_with fail
  go_loopg [0, 5] n (fun gh sv iv wr => ∃ (k : Nat) (t : ByteArray), k ≤ n ∧ gh = n - k ∧ sv = .string t ∧ iv = .int .i64 k ∧ Hid (t = bL (b ++ nmsL z k)) ∧ Hid (Below w.heap.size w wr))
  case atStart => exact ⟨0, bb, Nat.zero_le _, rfl, rfl, rfl, H0, E0⟩
  case round =>
    clear H0 E0
    obtain ⟨k, t, hk, rfl, rfl, rfl, HTT, EE⟩ := hrel
    rename World => V
    have hts : t.size ≤ 300 := by rw [HTT.out, bL_size]; exact HLN.out k hk
    by_cases hkn : k < n
    · have hki : (k : Int) < (n : Int) := by omega
      obtain ⟨g, o, rfl, hg, hc⟩ := HA.out (by omega)
      have c0 := (EE.out.cell (p := ⟨g, o + k, none⟩) hg).trans (hc k hkn)
      have hzk := HZ.out k hkn
      have KD := Lib.hid (rofB_any (z k) V hzk.1 hzk.2)
      have hil := Lib.itoa_length_le (z k) hzk.1 hzk.2
      obtain ⟨x, hx⟩ : ∃ x, z k = x := ⟨_, rfl⟩
      have hrs := bL_size (Lib.itoa x)
      obtain ⟨r, hr⟩ : ∃ r, bL (Lib.itoa x) = r := ⟨_, rfl⟩
      rw [hx] at c0 KD hil
      rw [hr] at KD hrs
      have HN : Hid (t ++ (ByteArray.mk #[32] ++ r) = bL (b ++ nmsL z (k + 1))) := Lib.hid (by
        rw [HTT.out, nmsL_succ, hx, ← hr]
        unfold bL
        apply ByteArray.ext; apply Array.ext'; simp)
      have HN2 : Hid (t ++ ByteArray.mk #[32] ++ r = bL (b ++ nmsL z (k + 1))) := Lib.hid (by
        rw [HTT.out, nmsL_succ, hx, ← hr]
        unfold bL
        apply ByteArray.ext; apply Array.ext'; simp)
      have hrb : r.size ≤ 21 := by omega
      have e1 : (ByteArray.mk #[32]).size = 1 := rfl
      have y1 : ¬ 9223372036854775807 < 1 + r.size := by omega
      have y2 : ¬ 9223372036854775807 < t.size + (1 + r.size) := by omega
      have y3 : ¬ 9223372036854775807 < t.size + 1 := by omega
      have y4 : ¬ 9223372036854775807 < t.size + 1 + r.size := by omega
      clear hc hzk hx hr hg hil hrs
      go_wp2_with fail
      refine KD.out.mono ?_
      rintro e V1 ⟨rfl, hb1⟩
      have E1 := Lib.hid (EE.out.trans (hb1.mono EE.out.size))
      clear hb1 KD c0
      go_wp2_with fail
      go_roundg (n - (k + 1))
      case measure => omega
      case rel => first | exact ⟨k + 1, _, by omega, rfl, rfl, by go_num, HN, E1⟩ | exact ⟨k + 1, _, by omega, rfl, rfl, by go_num, HN2, E1⟩
    · obtain rfl : k = n := by omega
      have hki : ¬ (k : Int) < (k : Int) := by omega
      have y1 : ¬ 9223372036854775807 < t.size + 1 := by omega
      have HF2 := Lib.hid (HFIN.out t HTT.out)
      clear HTT
      go_wp2_with fail
      rw [HF2.out]
      exact HQ.out _ EE.out
end Go.Proofs.YtmnildjcnpfddaaDoor
