/- Lexer: rows of tokens; first, field by field. -/
import Derived.Test.YthchgjjnlnadnaaRows
import Derived.Test.YthchgjjnlnadnaaRowKit
import Derived.Test.YthchgjjnlnadnaaShelf
import Derived.Test.YthchgjjnlnadnaaBlocks
import Derived.Test.YthchgjjnlnadnaaBL
import Derived.Test.YthchgjjnlnadnaaLexM
import Derived.Test.YthchgjjnlnadnaaRowL
import Derived.Test.YthchgjjnlnadnaaRowM
import Derived.Test.YthchgjjnlnadnaaLexA
import Derived.Test.YthchgjjnlnadnaaLexB
import Derived.Test.YthchgjjnlnadnaaLexC
import Derived.Test.YthchgjjnlnadnaaLexD
import Derived.Laws.MakeOwn
import Derived.Laws.AppendOwnNone
import Derived.WalkKit
import Derived.IntWalk
import Derived.Lib.Hide
import Derived.WalkSpells
import Derived.WalkLawsBesides
import Derived.Laws.IdiomStrings
import Derived.Laws.OwnMore
import Derived.OwnWalk
import Derived.Deep.QuietTactic
import Derived.BigQuiet
import Derived.BigRegion
import Derived.Deep.LoopGhost
namespace Go.Proofs.Ythchgjjnlnadnaa
open Go.RowKit Go.Sort
set_option linter.unusedSimpArgs false
set_option linter.unusedVariables false
theorem tokInfo : (Try.prog.info? 31).map (fun i => (i.zero, i.size, i.bytes)) = some (some (.agg #[.int .i64 0, .string ByteArray.empty, .int .i64 0, .int .i64 0, .int .i64 0]), 5, 48) := by kernel_rfl
def encT (L : List Tk) : List Value := L.flatMap tkV
theorem encT_app (A B : List Tk) : encT (A ++ B) = encT A ++ encT B := by unfold encT; rw [List.flatMap_append]
theorem encT_one (t : Tk) : encT [t] = tkV t := by unfold encT; simp
theorem encT_len : ∀ L : List Tk, (encT L).length = L.length * 5
  | [] => rfl
  | t :: L => by
    show (tkV t ++ encT L).length = _
    rw [List.length_append, encT_len L, List.length_cons]
    show 5 + _ = _
    omega
theorem tk_one (t : Tk) : ∀ u ∈ tkV t, u.oneCell' = true := by
  intro u hu
  unfold tkV at hu
  simp at hu
  rcases hu with rfl | rfl | rfl | rfl | rfl <;> rfl
theorem encT_ones (L : List Tk) : ∀ u ∈ encT L, u.oneCell' = true := by
  intro u hu
  unfold encT at hu
  obtain ⟨t, _, ht⟩ := List.mem_flatMap.1 hu
  exact tk_one t u ht
/-- a row of tokens of the call's own -/
def OwT (B : Nat) (w : World) (v : Value) (L : List Tk) : Prop := w.ownsRow B 31 5 v L.length (encT L)
theorem OwT.next {B : Nat} {w w' : World} {v : Value} {L : List Tk} (h : OwT B w v L) (hb : Below w.heap.size w w') : OwT B w' v L := ownM_below h hb
theorem owT_nil (B : Nat) (w : World) : OwT B w (.slice none 0 0) [] := ⟨rfl, Or.inl ⟨rfl, rfl⟩⟩
theorem append_tok {w : World} {ops : Array Oper} {rest : List Oper} {o : Oper} {a : Act} {Q : Exit → Act → World → Prop} (hgd : o.guard = none) (s x : Operand)
    (ho : o.op = .call { callee := .builtin .append, args := #[s, x], argTypes := #[22, 22] }) (base : Nat) (v : Value) (L : List Tk) (hs : a.eval s = v) (hown : OwT base w v L)
    (g c : Nat) (t : Tk) (cs : Array Value) (hcs : cs.toList = tkV t) (hx : a.eval x = .slice (some ⟨g, 0, none⟩) 1 c) (hg : Blk w g 31 cs) (hsm : L.length ≤ 100000) (hbase : base ≤ w.heap.size)
    (h : ∀ v' w', OwT base w' v' (L ++ [t]) → Below base w w' → (∀ b t cs, Blk w b t cs → v.ownBlock ≠ some b → Blk w' b t cs) → w.heap.size ≤ w'.heap.size → wpList Try.prog ops Q rest (a.put o.dst v') w') : wpList Try.prog ops Q (o :: rest) a w := by
  obtain ⟨i0, hi, hz0, hz1, hz2⟩ := info_parts tokInfo
  refine wpList_append_own w hgd s x _ ho base 31 i0 (.agg #[.int .i64 0, .string ByteArray.empty, .int .i64 0, .int .i64 0, .int .i64 0]) 5 48 Try.underlying22 hi hz0 hz1 hz2 rfl (by decide) v L.length (encT L) hs hown ⟨g, 0, none⟩ 1 c (tkV t) hx rfl (by rw [← hcs]; exact newsM hg) (tk_one t) (by unfold maxLen; omega) (by omega) hbase ?_
  intro v' w' h1 h2 _
  refine h v' w' ?_ ((Below.refl base w).grown h2 hbase (fun g hg => by first | exact ownR_ge hown hg | exact ownR_ge hown hg.symm)) (fun b t cs hb hne => (h2.block b hb.lt (Ne.symm hne)).trans hb) ((Below.refl base w).grown h2 hbase (fun g hg => by first | exact ownR_ge hown hg | exact ownR_ge hown hg.symm)).size
  unfold OwT
  rw [encT_app, encT_one, List.length_append, List.length_singleton]
  exact h1
/-- what a row of tokens holds at a place -/
theorem owT_cell {B : Nat} {w : World} {g c : Nat} {L : List Tk} (h : OwT B w (.slice (some ⟨g, 0, none⟩) L.length c) L) {i : Nat} {t : Tk} (hi : L[i]? = some t) (j : Nat) (hj : j < 5) : w.cell? ⟨g, i * 5 + j, none⟩ = (tkV t)[j]? := by
  have hil : i < L.length := by
    rcases Nat.lt_or_ge i L.length with q | q
    · exact q
    · rw [List.getElem?_eq_none q] at hi; cases hi
  have e : (encT L)[i * 5 + j]? = (tkV t)[j]? := by
    have h1 : L = L.take i ++ t :: L.drop (i + 1) := by
      rw [List.getElem?_eq_getElem hil] at hi
      injection hi with hi
      rw [← hi, ← List.drop_eq_getElem_cons hil, List.take_append_drop]
    rw [h1, show t :: L.drop (i + 1) = [t] ++ L.drop (i + 1) from rfl, encT_app, encT_app, encT_one]
    have hl : (encT (L.take i)).length = i * 5 := by rw [encT_len, List.length_take, Nat.min_eq_left (by omega)]
    rw [List.getElem?_append_right (by rw [hl]; omega), hl, Nat.add_sub_cancel_left, List.getElem?_append_left (by show j < 5; exact hj)]
  have hu : ∃ u, (tkV t)[j]? = some u := ⟨(tkV t)[j]'hj, List.getElem?_eq_getElem _⟩
  obtain ⟨u, hu⟩ := hu
  rw [hu] at e ⊢
  have h' : w.ownsRow B 31 5 (.slice (some ⟨g, 0, none⟩) L.length c) L.length (encT L) := h
  rw [h'.cellAt (i * 5 + j) (by omega), e]
theorem OwT.far {B : Nat} {w : World} {v : Value} {L : List Tk} (h : OwT B w v L) {p : Addr} (hp : p.block < B) (u : Value) : OwT B (w.setCell p u) v L := by
  have h' : w.ownsRow B 31 5 v L.length (encT L) := h
  refine h'.kept (row := some p.block) ⟨rfl, rfl, rfl, by simp, fun i hi hne => Below.heap_setCell w p u i (fun e => hne (by rw [e]))⟩ ?_
  refine Or.inr fun e => ?_
  have := (h'.lt _ e).1
  omega
/-- first, told field by field -/
def FsT2 (x : UInt8) (R : List UInt8) (a : Nat) (b : List UInt8) (c er : Nat) : Prop :=
  (er = 0 ∧ ∃ k, (k = 4 ∨ k = 5) ∧ kndL x = k ∧ (k = 5 → nokL (x :: rnL 5 R) = true) ∧ b = x :: rnL k R ∧ c ≤ 1073741824 ∧ a ≤ 5 ∧ ∀ l p, tokL k (x :: rnL k R) l p = [⟨a, b, c, l, p⟩]) ∨ (er = 190 ∧ kndL x = 0) ∨ (er = 191 ∧ kndL x = 5 ∧ nokL (x :: rnL 5 R) = false)
theorem first_two (x : UInt8) (R : List UInt8) (w : World) (hk : kndL x = 0 ∨ kndL x = 4 ∨ kndL x = 5) (hl : (x :: R).length ≤ 100000) :
    Calls Try.prog 22 #[.string (bL (x :: R))] w fun e w' => ∃ (a : Nat) (b : List UInt8) (c er : Nat), e = .returned (.tuple #[.agg #[.int .i64 (a : Nat), .string (bL b), .int .i64 (c : Nat), .int .i64 0, .int .i64 0], .int .i64 (er : Nat)]) ∧ FsT2 x R a b c er ∧ Below w.heap.size w w' := by
  refine (first_any x R w hk hl).mono ?_
  rintro e w' ⟨t, er, rfl, hf, hb⟩
  rcases hf with ⟨h4, rfl, rfl⟩ | ⟨h5, hn, rfl, rfl⟩ | ⟨h5, hn, rfl, rfl⟩ | ⟨h0, rfl, rfl⟩
  · exact ⟨1, x :: rnL 4 R, 0, 0, rfl, Or.inl ⟨rfl, 4, Or.inl rfl, h4, (fun q => by omega), rfl, by omega, by omega, fun _ _ => rfl⟩, hb⟩
  · have hm : nvL (x :: rnL 5 R) 0 ≤ 1073741824 := by
      unfold nokL at hn
      rw [Bool.and_eq_true] at hn
      exact of_decide_eq_true hn.1
    exact ⟨2, x :: rnL 5 R, nvL (x :: rnL 5 R) 0, 0, rfl, Or.inl ⟨rfl, 5, Or.inr rfl, h5, (fun _ => hn), rfl, hm, by omega, fun _ _ => rfl⟩, hb⟩
  · exact ⟨0, [], 0, 191, rfl, Or.inr (Or.inr ⟨rfl, h5, hn⟩), hb⟩
  · exact ⟨0, [], 0, 190, rfl, Or.inr (Or.inl ⟨rfl, h0⟩), hb⟩
/-- a line's tokens, or what is wrong -/
def LnR (T : List UInt8) (l : Nat) (w : World) (e : Ending) (w' : World) : Prop := ∃ v er p c, e = .returned (.tuple #[v, .agg #[.int .i64 (er : Nat), .int .i64 (p : Nat), .int .i64 (c : Nat)]]) ∧ Below w.heap.size w w' ∧
  ((er = 0 ∧ p = 0 ∧ c = 0 ∧ ∃ L, OwT w.heap.size w' v L ∧ LnW T l L ∧ L.length ≤ T.length) ∨ (er ≠ 0 ∧ er ≤ 1000 ∧ p = l ∧ LnE T l er c ∧ c ≤ T.length + 1 ∧ v = .slice none 0 0))
theorem OwT.lower {B B' : Nat} {w : World} {v : Value} {L : List Tk} (h : OwT B w v L) (hb : B' ≤ B) : OwT B' w v L := by
  obtain ⟨h1, h2⟩ := h
  refine ⟨h1, ?_⟩
  rcases h2 with h2 | ⟨g, cap, cur, e, hg, hr⟩
  · exact Or.inl h2
  · exact Or.inr ⟨g, cap, cur, e, Nat.le_trans hb hg, hr⟩
end Go.Proofs.Ythchgjjnlnadnaa
