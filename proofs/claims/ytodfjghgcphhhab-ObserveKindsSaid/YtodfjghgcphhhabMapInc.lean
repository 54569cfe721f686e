/- m[k]++ at a map that the call made, key and element by parts: the entry may be made ahead of the look-up, or behind it. -/
import Derived.Test.YtodfjghgcphhhabRows
import Derived.Test.YtodfjghgcphhhabRowKit
import Derived.WalkKit
import Derived.Maps.OwnSet
import Derived.Maps.OwnOps
import Derived.Maps.Views
import Derived.WideKeyEntry
import Derived.DeepKeys4
namespace Go.Proofs.Ytodfjghgcphhhab
open Go.RowKit Go.Maps Go.WideElems Go.MapKept Go.ChangeMaps
open Go.WideMaps (KeyLaw)
open Go.WideElems (Fit)
set_option linter.unusedSimpArgs false
set_option linter.unusedVariables false
theorem ok_inj {α : Type} {a b : α} {w w' : World} (h : (Result.ok a w : Result α) = .ok b w') : a = b ∧ w = w' := by cases h; exact ⟨rfl, rfl⟩
theorem lit_inj {H : Type} {q : IntKind} {a b : Int} (h : (DataW.lit (.int q a) : DataW H) = .lit (.int q b)) : a = b := by cases h; rfl
theorem int_inj {q : IntKind} {a b : Int} (h : Value.int q a = .int q b) : a = b := by cases h; rfl
section
variable {H : Type} {P : Program} {w : World} {t k e : TypeId} {q : IntKind} {b n : Nat} {D : DataW H}
set_option maxRecDepth 100000 in
/-- what m[k]++ does, by its parts -/
theorem inc_own (KL : KeyLaw P k) (ht : P.underlying t = some (.map k e)) (he : P.underlying e = some (.int q)) (hz : ∀ u : World, (zeroValue e).run P u = .ok (.int q 0) u)
    (h : w.ownsMap P k (plainElem P e) b n D) (hn : n + 1 < maxLen) {key : Value} {kl : Lit} (hkey : keyOf P k key = some kl) :
    ∃ c v0 st W1, D.atKey kl (.lit (.int q 0)) = .lit (.int q c) ∧ (Lit.int q c).wf = true ∧ (Instr.lookup t (.map (some b)) key false).run P w = .ok (.int q c) w ∧
      (Instr.mapEntry t (.map (some b)) key).run P w = .ok (.tuple #[v0, goInt st]) W1 ∧ (Instr.lookup t (.map (some b)) key false).run P W1 = .ok (.int q c) W1 ∧ w.grownBy W1 (some b) ∧
      ∀ c', (Lit.int q c').wf = true → ∃ W2, (Instr.entryStore t (.map (some b)) (goInt st) (.int q c')).run P W1 = .ok () W2 ∧ W2.ownsMap P k (plainElem P e) b (n + 1) (D.put kl (.lit (.int q c'))) ∧ w.grownBy W2 (some b) := by
  have K := Keyed.of_law KL
  have hw0 : (Lit.int q 0).wf = true := by cases q <;> decide
  obtain ⟨c, hl, hat, hwf⟩ := h.lookup_int K ht he (hz w) hkey
  have hnl : n < maxLen := Nat.lt_of_succ_lt hn
  have hup : ∀ c', (Lit.int q c').wf = true → ∃ w', (Instr.mapUpdate t (.map (some b)) key (.int q c')).run P w = .ok () w' ∧ w'.ownsMap P k (plainElem P e) b (n + 1) (D.put kl (.lit (.int q c'))) ∧ w.grownBy w' (some b) :=
    fun c' hc => h.update K ht hnl hkey (plainElem_int (H := H) he hc)
  have hown := h
  obtain ⟨es, clock, hb, F, hs, hD⟩ := h
  obtain ⟨v0, st, es1, clock1, hE, hcase, hS⟩ := entry_then_store KL ht hz hb F hkey
  have hb1 : (setBlock w b (.map es1 clock1)).heap[b]? = some (.map es1 clock1) := heap_setBlock_same hb _
  have g1 : w.grownBy (setBlock w b (.map es1 clock1)) (some b) := ⟨rfl, rfl, rfl, by simp [setBlock], fun i _ hi => heap_setBlock_other hb _ (fun e => hi (by rw [e]))⟩
  refine ⟨c, v0, st, _, hat, hwf, hl, hE, ?_, g1, fun c' hc => ?_⟩
  · rcases KL.find w hkey es.toList F.keys with ⟨h1, h2⟩ | ⟨j, e0, h1, h2, h3⟩
    · -- there was none: as behind m[k] = 0
      obtain ⟨w', hu, ho, hg⟩ := hup 0 hw0
      have e1 : (Instr.mapUpdate t (.map (some b)) key (.int q 0)).run P w = .ok () (setBlock w b (.map (es.push ⟨key, .int q 0, clock⟩) (clock + 1))) := by
        simp [Instr.mapUpdate, run_underlying ht, MapKept.run_getObj_map hb, KL.check w false hkey, h1, MapKept.run_setObj_map _ hb, Result.andThen, setBlock]
      have e2 : (Instr.mapEntry t (.map (some b)) key).run P w = .ok (.tuple #[.int q 0, goInt clock]) (setBlock w b (.map (es.push ⟨key, .int q 0, clock⟩) (clock + 1))) := by
        simp [Instr.mapEntry, run_underlying ht, MapKept.run_getObj_map hb, KL.check w false hkey, h1, hz, MapKept.run_setObj_map _ hb, Result.andThen, setBlock]
      rw [hE] at e2
      rw [hu] at e1
      have e1 := (ok_inj e1).2
      have e2 := (ok_inj e2).2
      rw [e2, ← e1]
      obtain ⟨c2, hl2, hat2, _⟩ := ho.lookup_int K ht he (hz w') hkey
      have hput : (D.put kl (.lit (.int q 0))).atKey kl (.lit (.int q 0)) = .lit (.int q 0) := atKey_put_same hown.isMap (K.key hkey) _ _
      rw [hput] at hat2
      have e3 := lit_inj hat2
      -- and c is 0, too
      have hc0 : c = 0 := by
        have : D.atKey kl (.lit (.int q 0)) = .lit (.int q 0) := by
          have e4 : (Instr.lookup t (.map (some b)) key false).run P w = .ok (.int q 0) w := by
            simp [Instr.lookup, run_underlying ht, MapKept.run_getObj_map hb, KL.check w es.isEmpty hkey, h1, hz, Result.andThen]
          rw [hl] at e4
          have e4 := int_inj (ok_inj e4).1
          rw [hat, e4]
        rw [hat] at this
        exact lit_inj this
      rw [hc0]
      rw [← e3] at hl2
      exact hl2
    · have hj : es[j]? = some e0 := by simpa using h2
      have hsame : es.modify j (fun e => { e with key := key }) = es := by
        apply Array.ext'
        rw [Array.toList_modify, modify_eq_set _ _ _ _ h2]
        have : ({ e0 with key := key } : MapEntry) = e0 := by rw [← h3]
        rw [this]
        exact set_self _ _ _ h2
      have e2 : (Instr.mapEntry t (.map (some b)) key).run P w = .ok (.tuple #[e0.val, goInt e0.born]) (setBlock w b (.map es clock)) := by
        simp [Instr.mapEntry, run_underlying ht, MapKept.run_getObj_map hb, KL.check w false hkey, h1, hj, h3, KL.stays w hkey, hsame, MapKept.run_setObj_map _ hb, Result.andThen, setBlock]
      rw [hE] at e2
      have e2 := (ok_inj e2).2
      rw [e2]
      have ho : (setBlock w b (.map es clock)).ownsMap P k (plainElem P e) b n D := ⟨es, clock, heap_setBlock_same hb _, F, hs, hD⟩
      obtain ⟨c2, hl2, hat2, _⟩ := ho.lookup_int K ht he (hz _) hkey
      rw [hat] at hat2
      rw [lit_inj hat2]; exact hl2
  · obtain ⟨es', clock', h1, h2⟩ := hS _ (.int q c') hb1
    obtain ⟨w', hu, ho, hg⟩ := hup c' hc
    rw [hu] at h2
    have h2 := (ok_inj h2).2
    have e5 : setBlock (setBlock w b (.map es1 clock1)) b (.map es' clock') = setBlock w b (.map es' clock') := by
      simp [setBlock]
    rw [e5] at h1
    exact ⟨_, h1, by rw [← h2]; exact ho, by rw [← h2]; exact hg⟩
end
end Go.Proofs.Ytodfjghgcphhhab
