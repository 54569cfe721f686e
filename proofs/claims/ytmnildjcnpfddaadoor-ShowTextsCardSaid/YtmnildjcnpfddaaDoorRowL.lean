/- Rows of numbers told by a function of the place; rows that the call made. -/
import Derived.Test.YtmnildjcnpfddaaDoorRows
import Derived.Test.YtmnildjcnpfddaaDoorRowKit
import Derived.Test.YtmnildjcnpfddaaDoorSlicesEq
import Derived.WalkKit
import Derived.Laws.MakeOwn
import Derived.Laws.OwnMore
namespace Go.Proofs.YtmnildjcnpfddaaDoor
open Go.RowKit
set_option linter.unusedVariables false
/-- the numbers a 0, a 1 .., so many -/
def rowL (a : Nat → Int) (n : Nat) : List Int := (List.range n).map a
theorem rowL_len (a : Nat → Int) (n : Nat) : (rowL a n).length = n := by simp [rowL]
theorem rowL_succ (a : Nat → Int) (n : Nat) : rowL a (n + 1) = rowL a n ++ [a n] := by simp [rowL, List.range_succ]
theorem rowL_at (a : Nat → Int) {n i : Nat} (h : i < n) : zat (rowL a n) i = a i := by
  unfold zat rowL; simp [List.getD_eq_getElem?_getD, h]
theorem rowL_congr {a b : Nat → Int} {n : Nat} (h : ∀ i, i < n → a i = b i) : rowL a n = rowL b n := by
  unfold rowL; exact List.map_congr_left fun i hi => h i (List.mem_range.1 hi)
theorem rowL_set (b : Nat → Int) (k n : Nat) (u : Int) : (rowL b n).set k u = rowL (fun i => if i = k then u else b i) n := by
  apply List.ext_getElem
  · simp [rowL]
  · intro i h1 h2
    simp only [rowL, List.getElem_set, List.getElem_map, List.getElem_range]
    by_cases h : k = i
    · simp [h]
    · simp [h, Ne.symm h]
/-- up to k told by a, from there on by b -/
def mixL (a b : Nat → Int) (k n : Nat) : List Int := rowL (fun i => if i < k then a i else b i) n
theorem mixL_len (a b : Nat → Int) (k n : Nat) : (mixL a b k n).length = n := rowL_len _ _
theorem mixL_zero (a b : Nat → Int) (n : Nat) : mixL a b 0 n = rowL b n := rowL_congr fun i _ => by simp
theorem mixL_full (a b : Nat → Int) (n : Nat) : mixL a b n n = rowL a n := rowL_congr fun i h => by simp [h]
theorem mixL_at (a b : Nat → Int) {k n i : Nat} (h : i < n) : zat (mixL a b k n) i = if i < k then a i else b i := rowL_at _ h
theorem mixL_set (a b : Nat → Int) (k n : Nat) : (mixL a b k n).set k (a k) = mixL a b (k + 1) n := by
  unfold mixL
  rw [rowL_set]
  refine rowL_congr fun i _ => ?_
  by_cases h : i = k
  · subst h; simp
  · rcases Nat.lt_or_ge i k with h1 | h1
    · rw [if_neg h, if_pos h1, if_pos (by omega)]
    · rw [if_neg h, if_neg (by omega), if_neg (by omega)]
theorem zat_get {ys : List Int} {i : Nat} (h : i < ys.length) : ys[i]? = some (zat ys i) := by
  unfold zat; rw [List.getD_eq_getElem?_getD, List.getElem?_eq_getElem h]; simp
theorem ownR_ge {w : World} {base : Nat} {e : TypeId} {size : Nat} {v : Value} {n : Nat} {xs : List Value} (h : w.ownsRow base e size v n xs) {g : Nat} (hg : v.ownBlock = some g) : base ≤ g := (h.lt g hg).1
theorem one_newR {w : World} {v : Value} {t : TypeId} : ∀ (j : Nat) (u : Value), [v][j]? = some u → (w.alloc (.cells #[v] t)).cell? ((⟨w.heap.size, 0, none⟩ : Addr).add j) = some u := by
  intro j u hj
  match j, hj with
  | 0, hj => simp at hj; subst hj; simp [Addr.add]
/-- a row that the call made, as a row that is read -/
theorem ownR_rd {w : World} {base : Nat} {e : TypeId} {v : Value} {k : IntKind} {ys : List Int} (h : w.ownsRow base e 1 v ys.length (ys.map (Value.int k))) (hwf : ∀ i, i < ys.length → (Lit.int k (zat ys i)).wf = true) : ∃ A c, v = .slice A ys.length c ∧ RdI w k A ys := by
  rcases h.2 with ⟨rfl, hn⟩ | ⟨g, cap, cur, rfl, hg, hh, hnc, _, hcs, htake⟩
  · exact ⟨none, 0, by rw [hn], rdI_none hn⟩
  · refine ⟨some ⟨g, 0, none⟩, cap, rfl, rdI_mk fun i hi => ⟨?_, hwf i hi⟩⟩
    have hcl := h.cells (g := g) rfl i (.int k (zat ys i)) (by rw [List.getElem?_map, zat_get hi]; rfl)
    by_cases h0 : i = 0
    · subst h0; simpa [Addr.add] using hcl
    · simpa [Addr.add, h0] using hcl
/-- its head, where it isn't empty -/
theorem ownR_head {w : World} {base : Nat} {e : TypeId} {v : Value} {n : Nat} {xs : List Value} (h : w.ownsRow base e 1 v n xs) (hn : 0 < n) : ∃ g cap, v = .slice (some ⟨g, 0, none⟩) n cap ∧ base ≤ g ∧ n ≤ cap := by
  rcases h.2 with ⟨_, h0⟩ | ⟨g, cap, cur, rfl, hg, hh, hnc, _⟩
  · omega
  · exact ⟨g, cap, rfl, hg, hnc⟩
theorem ownR_cell {w : World} {base : Nat} {e : TypeId} {g cap n : Nat} {k : IntKind} {a : Nat → Int} (h : w.ownsRow base e 1 (.slice (some ⟨g, 0, none⟩) n cap) n ((rowL a n).map (Value.int k))) {i : Nat} (hi : i < n) : w.cell? ⟨g, i, none⟩ = some (.int k (a i)) := by
  rw [h.cellAt i (by omega), List.getElem?_map, zat_get (by rw [rowL_len]; exact hi), rowL_at a hi]; rfl
theorem ownR_cellM {w : World} {base : Nat} {e : TypeId} {g cap n : Nat} {k : IntKind} {a b : Nat → Int} {m : Nat} (h : w.ownsRow base e 1 (.slice (some ⟨g, 0, none⟩) n cap) n ((mixL a b m n).map (Value.int k))) {i : Nat} (hi : i < n) (hm : m ≤ i) : w.cell? ⟨g, i, none⟩ = some (.int k (b i)) := by
  have := ownR_cell (a := fun i => if i < m then a i else b i) h hi
  rw [if_neg (by omega)] at this; exact this
theorem ownR_put {w : World} {base : Nat} {e : TypeId} {g cap n : Nat} {k : IntKind} {a b : Nat → Int} {m : Nat} (h : w.ownsRow base e 1 (.slice (some ⟨g, 0, none⟩) n cap) n ((mixL a b m n).map (Value.int k))) {u : Int} (hu : u = a m) :
    (w.setCell ⟨g, m, none⟩ (.int k u)).ownsRow base e 1 (.slice (some ⟨g, 0, none⟩) n cap) n ((mixL a b (m + 1) n).map (Value.int k)) := by
  subst hu
  have := (h.stored m (.int k (a m))).1
  rw [← List.map_set, mixL_set] at this
  exact this
theorem ownR_len {w : World} {base : Nat} {e : TypeId} {v : Value} {n : Nat} {k : IntKind} {ys : List Int} (h : w.ownsRow base e 1 v n (ys.map (Value.int k))) (hn : ys.length = n) : w.ownsRow base e 1 v ys.length (ys.map (Value.int k)) := by rw [hn]; exact h
end Go.Proofs.YtmnildjcnpfddaaDoor
