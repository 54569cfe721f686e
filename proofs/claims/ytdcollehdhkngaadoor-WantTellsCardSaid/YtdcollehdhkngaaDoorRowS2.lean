/- Arguments that are arrays of arrays of numbers. -/
import Derived.Test.YtdcollehdhkngaaDoorRows
import Derived.Test.YtdcollehdhkngaaDoorRowKit
import Derived.Test.YtdcollehdhkngaaDoorRowS
import Derived.WalkKit
import Derived.ProofKit
import Derived.OpenShut
import Derived.Deep.Slices
import Derived.Deep.Fields
import Derived.ChangeSame
import Derived.Lib.SmallJoins
namespace Go.Proofs.YtdcollehdhkngaaDoor
open Go.ChangeShapes Go.WideShapes Go.ChangeAt Go.RowKit Go.Joins Go.Deep
set_option linter.unusedVariables false
section
variable {P : Program} {H : Type} {enc : TypeId × Value → H}
/-- an array of arrays of numbers, by value -/
theorem open_array2 {w : World} {base : Nat} {spare : Nat → Bool} {held : Bool} {r : Reach} {b0 : Nat} {t e u : TypeId} {m q : Nat} {k : IntKind} {v : Value} {d : DataW H} {p : List MemPlace} (hs : P.underlying t = some (.array m e)) (he : P.underlying e = some (.array q u)) (hu : P.underlying u = some (.int k)) (hc : P.cellsOf u = 1) (hq : P.cellsOf e = q) (hC : P.cellsOf t = m * q)
    (hv : Value.okWide P w r b0 t v) (h : DataW.Trod enc P w base spare held t v d p) :
    ∃ z : List Int, v = .agg (z.map (Value.int k)).toArray ∧ z.length = m * q ∧ ∀ (j : Nat) (n : Int), z[j]? = some n → (Lit.int k n).wf = true := by
  simp only [Value.okWide, hs] at hv
  obtain ⟨cs, rfl, hsz, _⟩ := hv
  obtain ⟨l⟩ := cs
  obtain ⟨fuel, hf⟩ := h
  obtain ⟨xs, n, _, hx, _, hlen, hg⟩ := DataW.trod_array hs hf
  have hl : l.length = m * q := by simpa using hsz.trans hC
  have key : ∀ j (hj : j < m * q), ∃ a : Int, l[j]'(by omega) = .int k a ∧ (Lit.int k a).wf = true := by
    intro j hj
    have hq0 : 0 < q := by rcases Nat.eq_zero_or_pos q with h0 | h0; · subst h0; simp at hj
                           · exact h0
    have hjm : j / q < m := Nat.div_lt_of_lt_mul (by rw [Nat.mul_comm]; exact hj)
    have hjq : j % q < q := Nat.mod_lt _ hq0
    have hdm : j / q * q + j % q = j := by rw [Nat.mul_comm]; exact Nat.div_add_mod j q
    have h1 := hg (j / q) hjm
    rw [hq, List.getElem?_eq_getElem (by omega)] at h1
    obtain ⟨ys, n', _, hy, _, hylen, hg'⟩ := DataW.trod_array he h1
    have h2 := hg' (j % q) hjq
    rw [hc, Nat.mul_one] at h2
    have hd : ((((Value.agg l.toArray).cells.toList.drop (j / q * q)).take q).drop (j % q)).take 1 = [l[j]'(by omega)] := by
      show (((l.drop (j / q * q)).take q).drop (j % q)).take 1 = _
      rw [List.drop_take, List.drop_drop, hdm, List.take_take, List.drop_eq_getElem_cons (by omega)]
      rw [show min 1 (q - j % q) = 1 by omega]
      rfl
    rw [hd, List.getElem?_eq_getElem (by omega)] at h2
    exact trod_i_any hu h2
  refine ⟨l.map intOf, ?_, by simpa using hl, ?_⟩
  · congr 1
    rw [List.map_map]
    congr 1
    apply List.ext_getElem
    · simp
    · intro i h1 h2
      obtain ⟨a, ha, _⟩ := key i (by omega)
      simp [ha, intOf]
  · intro j n hj
    rw [List.getElem?_map] at hj
    have hjl : j < l.length := by
      rcases Nat.lt_or_ge j l.length with c | c
      · exact c
      · rw [List.getElem?_eq_none c] at hj; cases hj
    obtain ⟨a, ha, hw⟩ := key j (by omega)
    rw [List.getElem?_eq_getElem hjl, ha] at hj
    simp [intOf] at hj
    subst hj; exact hw
end
end Go.Proofs.YtdcollehdhkngaaDoor
