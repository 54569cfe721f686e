/- Contracts of digits.filled, of strconv.FormatUint at a small number, of digits.Fixed at -5, and of the law's alive. -/
import Derived.Test.YtkonghjmipclmaaDoorRows
import Derived.Test.YtkonghjmipclmaaDoorRowKit
import Derived.Test.YtkonghjmipclmaaDoorShelf
import Derived.Test.YtkonghjmipclmaaDoorNumsMath
import Derived.Test.YtkonghjmipclmaaDoorNumsA
import Derived.Test.YtkonghjmipclmaaDoorNumsB
import Derived.Test.YtkonghjmipclmaaDoorDigA
import Derived.Test.YtkonghjmipclmaaDoorDigB
import Derived.Test.YtkonghjmipclmaaDoorTab
import Derived.Test.YtkonghjmipclmaaDoorDigMath
import Derived.Test.YtkonghjmipclmaaDoorDigC
import Derived.Test.YtkonghjmipclmaaDoorDigD
import Derived.WalkKit
import Derived.IntWalk
import Derived.Lib.Hide
import Derived.Lib.ItoaLen
import Derived.Lib.ItoaMem
import Derived.Lib.AppendStr
import Derived.WalkSpells
import Derived.WalkLawsBesides
import Derived.Laws.IdiomStrings
import Derived.Laws.CopyOwn
import Derived.Laws.MakeOwn
import Derived.Laws.OwnMore
import Derived.Deep.QuietTactic
import Derived.BigQuiet
namespace Go.Proofs.YtkonghjmipclmaaDoor
open Go.RowKit Go.Sort
set_option linter.unusedSimpArgs false
set_option linter.unusedVariables false
theorem info8 : (Tryd.prog.info? 5).map (fun i => (i.zero, i.size, i.bytes)) = some (some (.int .u8 0), 1, 1) := by kernel_rfl
/-- bytes as cells -/
def bC (L : List UInt8) : List Value := L.map fun b => Value.int .u8 b.toNat
theorem bC_snoc (L : List UInt8) (c : UInt8) : bC (L ++ [c]) = bC L ++ [Value.int .u8 c.toNat] := by simp [bC]
theorem rep_snoc (k : Nat) (c : UInt8) : List.replicate (k + 1) c = List.replicate k c ++ [c] := by
  exact List.replicate_succ'
theorem ownB_ge {w : World} {base : Nat} {e : TypeId} {size : Nat} {v : Value} {n : Nat} {xs : List Value} (h : w.ownsRow base e size v n xs) {g : Nat} (hg : v.ownBlock = some g) : base ≤ g := (h.lt g hg).1
theorem one_newB {w : World} {v : Value} {t : TypeId} : ∀ (j : Nat) (u : Value), [v][j]? = some u → (w.alloc (.cells #[v] t)).cell? ((⟨w.heap.size, 0, none⟩ : Addr).add j) = some u := by
  intro j u hj
  match j, hj with
  | 0, hj => simp at hj; subst hj; simp [Addr.add]
theorem ownB_shape {w : World} {b : Nat} {e : TypeId} {v : Value} {n : Nat} {xs : List Value} (h : w.ownsRow b e 1 v n xs) : ∃ (g : Option Addr) (cap : Nat), v = .slice g n cap := by
  rcases h.2 with ⟨rfl, h0⟩ | ⟨g, cap, _, rfl, _⟩
  · exact ⟨none, 0, by rw [h0]⟩
  · exact ⟨_, cap, rfl⟩
theorem ownB_head {w : World} {base : Nat} {e : TypeId} {v : Value} {n : Nat} {xs : List Value} (h : w.ownsRow base e 1 v n xs) (hn : 0 < n) : ∃ g cap, v = .slice (some ⟨g, 0, none⟩) n cap := by
  rcases h.2 with ⟨_, h0⟩ | ⟨g, cap, cur, rfl, hg, hh, hnc, _⟩
  · omega
  · exact ⟨g, cap, rfl⟩
/-- bytes that the call owns, as a string -/
theorem conv_own {w : World} {base g n cap : Nat} {M : List UInt8} (h : w.ownsRow base 5 1 (.slice (some ⟨g, 0, none⟩) n cap) n (bC M)) (hn : n = M.length) :
    (convert 31 9 (.slice (some ⟨g, 0, none⟩) n cap)).run Tryd.prog w = .ok (.string ⟨M.toArray⟩) w := by
  subst hn
  refine run_convert_bytes_back w 31 9 5 ⟨g, 0, none⟩ cap M Tryd.underlying31 Tryd.underlying5 Tryd.underlying9 (fun j hj => ?_)
  refine h.cells (g := g) rfl j _ ?_
  unfold bC
  rw [List.getElem?_map, List.getElem?_eq_getElem hj]; rfl
set_option maxRecDepth 100000 in
set_option maxHeartbeats 2000000 in
theorem filled_any (L : List UInt8) (len : Nat) (c : UInt8) (w : World) (h : L.length < len) (hl : len ≤ 65536) :
    Calls Tryd.prog 46 #[.string (bL L), .int .i64 len, .int .u8 c.toNat] w fun e w' => e = .returned (.string ⟨(List.replicate (len - L.length) c ++ L).toArray⟩) ∧ Below w.heap.size w w' := by
  obtain ⟨i0, hi, hz0, hz1, hz2⟩ := info_parts info8
  have HR := Lib.hid (fun k => rep_snoc k c)
  have HSn := Lib.hid (fun k => bC_snoc (List.replicate k c) c)
  have HE : Hid (∀ k, bC (List.replicate k c) ++ Lib.strCells (bL L) = bC (List.replicate k c ++ L)) := Lib.hid fun k => by unfold bC Lib.strCells bL; simp
  have HL := Lib.hid (fun k => show (List.replicate k c ++ L).length = k + L.length by simp)
  have hs : (bL L).size = L.length := bL_size L
  obtain ⟨m, hm⟩ : ∃ m, len = L.length + m := ⟨len - L.length, by omega⟩
  have e0 : len - L.length = m := by omega
  rw [e0]
  obtain ⟨sz, hsz⟩ : ∃ sz, L.length = sz := ⟨_, rfl⟩
  rw [hsz] at hs hm h
  simp only [hsz] at HL
  generalize hS : bL L = s at *
  have hm1 : (len : Int) - sz = m := by omega
  have w1 : IntKind.i64.wrap ((len : Int) - sz) = m := by rw [hm1]; exact IntWalk.i64_in _ (by omega)
  have hlt : ¬ (len : Int) ≤ (sz : Int) := by omega
  have hlt2 : ¬ len ≤ sz := by omega
  have hm0 : m ≤ 65536 := by omega
  have hm2 : 0 < m := by omega
  have hsl : sz ≤ 65536 := by omega
  clear hS e0 hm hsz h
  go_enter Tryd.func46, Tryd.ntmps46
  go_wp2_with (at_make; refine wpList_make_own _ rfl _ _ 31 rfl w.heap.size 5 i0 (.int .u8 0) 1 Tryd.underlying31 hi hz0 hz1 _ _ _ len rfl rfl (by omega) (by rw [hz2]; omega) (by unfold maxLen; omega) (Nat.le_refl _) ?_; intro w0 hown0 hgrow0)
  have hb0 : Below w.heap.size w w0 := (Below.refl _ _).grown hgrow0 (Nat.le_refl _) (fun k h => by cases h)
  have HO := Lib.hid hown0
  have HB0 := Lib.hid hb0
  clear hgrow0 hown0 hb0
  go_wp2_with fail
  go_loopw [7, 19] (fun l i wr => ∃ k : Nat, k ≤ m ∧ i = .int .i64 k ∧ wr.ownsRow w.heap.size 5 1 l k (bC (List.replicate k c)) ∧ Below w.heap.size w wr) (fun _ i _ => m - (intOf i).toNat)
  case atStart => exact ⟨0, by omega, rfl, by simpa [bC] using HO.out, HB0.out⟩
  case round =>
    obtain ⟨k, hk, rfl, hown, hb⟩ := hrel
    obtain ⟨A, ac, rfl⟩ := ownB_shape hown
    by_cases hkm : k < m
    · go_wp2_with (at_builtin; refine wpList_append_own _ rfl _ _ 31 rfl w.heap.size 5 i0 (.int .u8 0) 1 1 Tryd.underlying31 hi hz0 hz1 hz2 rfl (by decide) _ _ _ rfl (hown.alloc _) ⟨_, 0, none⟩ 1 1 [.int .u8 c.toNat] rfl rfl one_newB (by intro u hu; simp at hu; subst hu; rfl) (by unfold maxLen; omega) (by omega) (by have := hb.size; simp; omega) ?_; intro v' w1 hown' hgrow _)
      have hb1 : Below w.heap.size w w1 := by
        refine (hb.alloc hb.size _).grown hgrow (by have := hb.size; simp; omega) (fun g hg => ?_)
        first | exact ownB_ge hown hg | exact ownB_ge hown hg.symm
      have hown2 : w1.ownsRow w.heap.size 5 1 v' (k + 1) (bC (List.replicate (k + 1) c)) := by
        rw [HR.out, HSn.out]; exact hown'
      clear hown' hgrow
      go_wp2_with fail
      go_roundw
      case rel => exact ⟨k + 1, by omega, by go_num, hown2, hb1⟩
      case measure => simp [intOf]; omega
    · obtain rfl : k = m := by omega
      go_wp2_with (at_builtin; refine Lib.wpList_append_own_string _ rfl _ _ 31 9 rfl w.heap.size 5 i0 Tryd.underlying31 Tryd.underlying9 hi hz0 hz1 hz2 _ _ _ rfl hown _ rfl (by unfold maxLen; omega) (by omega) hb.size ?_; intro v' w1 hown' hgrow _; rw [hs, HE.out] at hown'; obtain ⟨g, gc, rfl⟩ := ownB_head hown' (by omega); have kc := conv_own hown' (by rw [HL.out]))
      have hb1 : Below w.heap.size w w1 := by
        refine hb.grown hgrow hb.size (fun g hg => ?_)
        first | exact ownB_ge hown hg | exact ownB_ge hown hg.symm
      clear hown' hgrow hown
      go_wp2_with fail
      go_ret
      exact ⟨rfl, hb1⟩
theorem itoa120 : Lib.itoa (-120) = [45, 49, 50, 48] := by
  have e : Lib.decDigits 120 = [49, 50, 48] := by
    rw [dec_many (by decide), dec_many (by decide), Lib.decDigits_one (by decide)]; rfl
  have h := Lib.itoa_neg 120 (by omega)
  rw [e] at h
  exact h
theorem itoa12 : Lib.itoa (-12) = [45, 49, 50] := by
  have e : Lib.decDigits 12 = [49, 50] := by
    rw [dec_many (by decide), Lib.decDigits_one (by decide)]; rfl
  have h := Lib.itoa_neg 12 (by omega)
  rw [e] at h
  exact h
end Go.Proofs.YtkonghjmipclmaaDoor
