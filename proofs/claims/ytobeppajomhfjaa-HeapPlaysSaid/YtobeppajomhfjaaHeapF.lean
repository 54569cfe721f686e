/- append of entries to a row that the call made. -/
import Derived.Test.YtobeppajomhfjaaHeapE
import Derived.WalkKit
import Derived.IntWalk
import Derived.Lib.Hide
import Derived.WalkSpells
import Derived.WalkLawsBesides
import Derived.OwnWalk
import Derived.BigRegion
import Derived.Deep.LoopGhost
import Derived.Deep.RegionHeld3
import Derived.Deep.QuietTactic
import Derived.BigQuiet
import Derived.Laws.CopyOwn
import Derived.Laws.MakeOwn
import Derived.Laws.OwnMore
import Derived.Laws.AppendOwnNone
namespace Go.Proofs.Ytobeppajomhfjaa
open Go.RowKit
set_option linter.unusedVariables false
set_option linter.unusedSimpArgs false
theorem rdZ_news3 {w : World} {a : Addr} {n : Nat} {z : Nat → Nat → Int} (h : RdZ w 3 (some a) n z) : ∀ j u, (rowM 3 z n)[j]? = some u → w.cell? (a.add j) = some u := by
  intro j u hu
  have hj : j < n * 3 := by
    rcases Nat.lt_or_ge j (n * 3) with h | h
    · exact h
    · rw [List.getElem?_eq_none (by rw [rowM_len]; exact h)] at hu; cases hu
  have e : j = j / 3 * 3 + j % 3 := by omega
  have hg := rowM_get (m := 3) (n := n) (z := z) (i := j / 3) (j := j % 3) (by omega) (by omega)
  rw [← e, hu] at hg
  obtain ⟨a', ea, _, hc⟩ := h (j / 3) (by omega)
  cases ea
  have := (hc (j % 3) (by omega)).1
  rw [← e] at this
  rw [this, ← hg]
theorem rowM_cells3 (z : Nat → Nat → Int) (n : Nat) : ∀ u ∈ rowM 3 z n, u.oneCell' = true := by
  intro u hu
  unfold rowM at hu
  obtain ⟨x, _, rfl⟩ := List.mem_map.1 hu
  rfl
theorem append_ents {w : World} {ops : Array Oper} {rest : List Oper} {o : Oper} {a : Act} {Q : Exit → Act → World → Prop} (hgd : o.guard = none) (s x : Operand)
    (ho : o.op = .call { callee := .builtin .append, args := #[s, x], argTypes := #[22, 22] }) (base : Nat) (v : Value) (n : Nat) (xs : List Value) (hs : a.eval s = v) (hown : w.ownsRow base 24 3 v n xs)
    (A : Option Addr) (m c : Nat) (z : Nat → Nat → Int) (hx : a.eval x = .slice A m c) (hr : RdZ w 3 A m z) (hc : m ≤ c) (hn : A = none → c = 0) (hsm : n + m ≤ 100000) (hbase : base ≤ w.heap.size)
    (h : ∀ v' w', w'.ownsRow base 24 3 v' (n + m) (xs ++ rowM 3 z m) → Below base w w' → wpList Try.prog ops Q rest (a.put o.dst v') w') : wpList Try.prog ops Q (o :: rest) a w := by
  obtain ⟨i0, hi, hz0, hz1, hz2⟩ := info_parts enInfo
  cases A with
  | none =>
    obtain rfl : c = 0 := hn rfl
    obtain rfl : m = 0 := by omega
    refine wpList_append_own_none hgd s x _ ho base 24 i0 3 Try.underlying22 hi v n xs hs hown hx ?_
    exact h v w (by rw [rowM_zero, List.append_nil]; exact hown) (Below.refl _ _)
  | some ad =>
    refine wpList_append_own w hgd s x _ ho base 24 i0 (.agg #[.int .i64 0, .int .i64 0, .int .i64 0]) 3 24 Try.underlying22 hi hz0 hz1 hz2 rfl (by decide) v n xs hs hown ad m c (rowM 3 z m) hx (rowM_len ..) (rdZ_news3 hr) (rowM_cells3 z m) (by unfold maxLen; omega) (by omega) hbase ?_
    intro v' w' h1 h2 _
    exact h v' w' h1 ((Below.refl base w).grown h2 hbase (fun g hg => by first | exact ownR_ge hown hg | exact ownR_ge hown hg.symm))
theorem append_ent {w : World} {ops : Array Oper} {rest : List Oper} {o : Oper} {a : Act} {Q : Exit → Act → World → Prop} (hgd : o.guard = none) (s x : Operand)
    (ho : o.op = .call { callee := .builtin .append, args := #[s, x], argTypes := #[22, 22] }) (base : Nat) (v : Value) (n : Nat) (xs : List Value) (hs : a.eval s = v) (hown : w.ownsRow base 24 3 v n xs)
    (g c : Nat) (p q r : Int) (hx : a.eval x = .slice (some ⟨g, 0, none⟩) 1 c) (hg : Blk w g 24 #[.int .i64 p, .int .i64 q, .int .i64 r]) (hsm : n ≤ 100000) (hbase : base ≤ w.heap.size)
    (h : ∀ v' w', w'.ownsRow base 24 3 v' (n + 1) (xs ++ [.int .i64 p, .int .i64 q, .int .i64 r]) → Below base w w' → (∀ b t cs, Blk w b t cs → v.ownBlock ≠ some b → Blk w' b t cs) → wpList Try.prog ops Q rest (a.put o.dst v') w') : wpList Try.prog ops Q (o :: rest) a w := by
  obtain ⟨i0, hi, hz0, hz1, hz2⟩ := info_parts enInfo
  refine wpList_append_own w hgd s x _ ho base 24 i0 (.agg #[.int .i64 0, .int .i64 0, .int .i64 0]) 3 24 Try.underlying22 hi hz0 hz1 hz2 rfl (by decide) v n xs hs hown ⟨g, 0, none⟩ 1 c [.int .i64 p, .int .i64 q, .int .i64 r] hx rfl (newsM hg) (by intro u hu; simp at hu; rcases hu with rfl | rfl | rfl <;> rfl) (by unfold maxLen; omega) (by omega) hbase ?_
  intro v' w' h1 h2 _
  exact h v' w' h1 ((Below.refl base w).grown h2 hbase (fun g hg => by first | exact ownR_ge hown hg | exact ownR_ge hown hg.symm)) (fun b t cs hb hne => (h2.block b hb.lt (Ne.symm hne)).trans hb)
end Go.Proofs.Ytobeppajomhfjaa
