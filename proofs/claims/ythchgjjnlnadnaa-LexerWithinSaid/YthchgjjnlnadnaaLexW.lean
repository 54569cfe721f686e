/- Lexer: mathematics: where the tokens stand in the text. -/
import Derived.Test.YthchgjjnlnadnaaRows
import Derived.Test.YthchgjjnlnadnaaBL
import Derived.Test.YthchgjjnlnadnaaLexM
import Derived.Test.YthchgjjnlnadnaaLexA
import Derived.Test.YthchgjjnlnadnaaLexB
import Derived.Test.YthchgjjnlnadnaaLexD
import Derived.Test.YthchgjjnlnadnaaLexP
namespace Go.Proofs.Ythchgjjnlnadnaa
set_option linter.unusedVariables false
set_option linter.unusedSimpArgs false
theorem plc_step {S : List UInt8} {k : Nat} (h : k < S.length) : (plc (S.take k)).1 < (plc (S.take (k + 1))).1 ∨ ((plc (S.take (k + 1))).1 = (plc (S.take k)).1 ∧ (plc (S.take (k + 1))).2 = (plc (S.take k)).2 + 1) := by
  rw [plc_take (List.getElem?_eq_getElem h)]
  unfold plF
  split
  · left; simp
  · right; simp
theorem plc_lt {S : List UInt8} {a : Nat} : ∀ b, a < b → b ≤ S.length → (plc (S.take a)).1 < (plc (S.take b)).1 ∨ ((plc (S.take b)).1 = (plc (S.take a)).1 ∧ (plc (S.take a)).2 < (plc (S.take b)).2)
  | 0, h, _ => absurd h (Nat.not_lt_zero _)
  | b + 1, h, hb => by
    have hs := plc_step (S := S) (k := b) (by omega)
    rcases Nat.lt_or_ge a b with q | q
    · have ih := plc_lt (S := S) (a := a) b q (by omega)
      omega
    · obtain rfl : a = b := by omega
      omega
theorem plc_inj {S : List UInt8} {a b : Nat} (h : a < b) (hb : b ≤ S.length) : plc (S.take a) ≠ plc (S.take b) := fun e => by
  have := plc_lt b h hb
  rw [e] at this
  omega
/-- a token stands at a place of a text -/
def TokAt (S : List UInt8) (o : Nat) (t : Tk) : Prop := o ≤ S.length ∧ plc (S.take o) = (t.l, t.c) ∧ (t.k ≠ 3 → ∃ B, S.drop o = t.t ++ B) ∧ (t.k = 3 → o = S.length ∨ S[o]? = some 10)
/-- tokens stand behind each other -/
def ChT (S : List UInt8) : Nat → List Tk → Prop
  | _, [] => True
  | i, t :: L => ∃ o, i ≤ o ∧ TokAt S o t ∧ ChT S o L
theorem ChT.weak {S : List UInt8} {i j : Nat} (h : i ≤ j) : ∀ {L : List Tk}, ChT S j L → ChT S i L
  | [], _ => trivial
  | t :: L, ⟨o, h1, h2, h3⟩ => ⟨o, Nat.le_trans h h1, h2, h3⟩
theorem plc_run {S : List UInt8} {i : Nat} : ∀ m, i + m ≤ S.length → (∀ j x, i ≤ j → j < i + m → S[j]? = some x → x.toNat ≠ 10) → plc (S.take (i + m)) = ((plc (S.take i)).1, (plc (S.take i)).2 + m)
  | 0, _, _ => rfl
  | m + 1, h, hx => by
    have ih := plc_run m (by omega) (fun j x h1 h2 => hx j x h1 (by omega))
    have hg : S[i + m]? = some S[i + m] := List.getElem?_eq_getElem (by omega)
    have hn := hx (i + m) _ (by omega) (by omega) hg
    rw [show i + (m + 1) = i + m + 1 by omega, plc_take hg, ih]
    unfold plF
    rw [if_neg hn]
    rfl
theorem run_not10 {k : Nat} (h : k = 1 ∨ k = 2 ∨ k = 4 ∨ k = 5) {S : List UInt8} {i : Nat} {x : UInt8} (hx : S[i]? = some x) (hk : kndL x = k) : ∀ j y, i ≤ j → j < i + (1 + (rnL k (S.drop (i + 1))).length) → S[j]? = some y → y.toNat ≠ 10 := by
  intro j y h1 h2 hy e
  by_cases q : j = i
  · subst q
    rw [hx] at hy
    cases hy
    have : kndL x = 3 := by unfold kndL; rw [e]; rfl
    omega
  · obtain ⟨z, hz, hc⟩ := tw_at (p := cntL k) (S.drop (i + 1)) (j - (i + 1)) (show j - (i + 1) < (rnL k (S.drop (i + 1))).length by omega)
    rw [List.getElem?_drop, show i + 1 + (j - (i + 1)) = j by omega, hy] at hz
    cases hz
    rw [cnt_ten k e] at hc
    cases hc
def ScT (S : List UInt8) (i : Nat) (acc : List Tk) : ScR → Prop
  | .ok L => (∃ L', L = acc ++ L' ∧ ChT S i L') ∧ L ≠ []
  | .bad e l c => e ≠ 0 ∧ ∃ k, k < S.length ∧ plc (S.take k) = (l, c)
theorem endL_ne {acc : List Tk} (h : endL acc = true) : acc ≠ [] := fun e => by rw [e] at h; cases h
theorem scan_at (S : List UInt8) : ∀ n i l c acc, S.length - i ≤ n → i ≤ S.length → plc (S.take i) = (l, c) → ScT S i acc (scL (S.drop i) l c acc) := by
  intro n
  induction n with
  | zero =>
    intro i l c acc hn hi hp
    obtain rfl : i = S.length := by omega
    rw [List.drop_length, scL_nil]
    by_cases h : endL acc = true
    · rw [if_pos h, List.append_nil]
      exact ⟨⟨[], by simp, trivial⟩, endL_ne h⟩
    · rw [if_neg h]
      refine ⟨⟨_, rfl, ⟨S.length, Nat.le_refl _, ⟨Nat.le_refl _, hp, fun q => absurd rfl q, fun _ => Or.inl rfl⟩, trivial⟩⟩, by simp⟩
  | succ n ih =>
    intro i l c acc hn hi hp
    rcases Nat.lt_or_ge i S.length with h | h
    · have hx : S[i]? = some S[i] := List.getElem?_eq_getElem h
      obtain ⟨x, hxx⟩ : ∃ x, S[i] = x := ⟨_, rfl⟩
      rw [hxx] at hx
      have hd := drop_cons hx
      have h6 : kndL x ≤ 5 := by
        unfold kndL
        repeat' split
        all_goals omega
      by_cases h0 : kndL x = 0
      · rw [hd, scL_none h0]
        exact ⟨by omega, i, h, hp⟩
      by_cases h5 : kndL x = 5 ∧ nokL (x :: rnL 5 (S.drop (i + 1))) = false
      · rw [hd, scL_num h5.1 h5.2]
        exact ⟨by omega, i, h, hp⟩
      obtain ⟨k, hk⟩ : ∃ k, kndL x = k := ⟨_, rfl⟩
      rw [hk] at h0 h6
      rw [hd, scL_go hk h0 (fun q => by
        cases hb : nokL (x :: rnL 5 (S.drop (i + 1))) with
        | true => rfl
        | false => exact absurd ⟨hk.trans q, hb⟩ h5)]
      have hml := rnL_len k (S.drop (i + 1))
      rw [List.length_drop] at hml
      rw [List.drop_drop]
      have hnext : plc (S.take (i + 1 + (rnL k (S.drop (i + 1))).length)) = (if k = 3 then l + 1 else l, if k = 3 then 1 else c + 1 + (rnL k (S.drop (i + 1))).length) := by
        by_cases h3 : k = 3
        · rw [if_pos h3, if_pos h3, h3, rnL_one (by omega), List.length_nil, Nat.add_zero, plc_take hx, hp]
          have hx10 : x.toNat = 10 := by
            rw [h3] at hk
            unfold kndL at hk
            repeat' split at hk
            all_goals omega
          unfold plF
          rw [if_pos hx10]
        · rw [if_neg h3, if_neg h3, show i + 1 + (rnL k (S.drop (i + 1))).length = i + (1 + (rnL k (S.drop (i + 1))).length) by omega]
          rw [plc_run (1 + (rnL k (S.drop (i + 1))).length) (by omega) (run_not10 (by omega) hx hk), hp]
          show (l, c + (1 + (rnL k (S.drop (i + 1))).length)) = _
          rw [Nat.add_assoc]
      have hih := ih (i + 1 + (rnL k (S.drop (i + 1))).length) _ _ (acc ++ tokL k (x :: rnL k (S.drop (i + 1))) l c) (by omega) (by omega) hnext
      revert hih
      cases scL (S.drop (i + 1 + (rnL k (S.drop (i + 1))).length)) (if k = 3 then l + 1 else l) (if k = 3 then 1 else c + 1 + (rnL k (S.drop (i + 1))).length) (acc ++ tokL k (x :: rnL k (S.drop (i + 1))) l c) with
      | bad e l' c' => exact fun h => h
      | ok L =>
        rintro ⟨⟨L', hL, hC⟩, hne⟩
        refine ⟨⟨tokL k (x :: rnL k (S.drop (i + 1))) l c ++ L', by rw [hL, List.append_assoc], ?_⟩, hne⟩
        have hpre : ∃ B, S.drop i = (x :: rnL k (S.drop (i + 1))) ++ B := by
          refine ⟨(S.drop (i + 1)).drop (rnL k (S.drop (i + 1))).length, ?_⟩
          have ht : (S.drop (i + 1)).take (rnL k (S.drop (i + 1))).length = rnL k (S.drop (i + 1)) := tw_take _
          rw [hd, List.cons_append]
          congr 1
          conv => lhs; rw [← List.take_append_drop (rnL k (S.drop (i + 1))).length (S.drop (i + 1)), ht]
        have hw : ChT S i L' := hC.weak (by omega)
        unfold tokL
        by_cases h3 : k = 3
        · rw [if_pos h3]
          have hx10 : x = 10 := by
            rw [h3] at hk
            unfold kndL at hk
            apply UInt8.toNat_inj.1
            show x.toNat = 10
            repeat' split at hk
            all_goals omega
          exact ⟨i, Nat.le_refl _, ⟨hi, hp, fun q => absurd rfl q, fun _ => Or.inr (by rw [hx, hx10])⟩, hw⟩
        · rw [if_neg h3]
          by_cases h4 : k = 4
          · rw [if_pos h4]
            exact ⟨i, Nat.le_refl _, ⟨hi, hp, fun _ => hpre, fun q => by cases q⟩, hw⟩
          · rw [if_neg h4]
            by_cases h55 : k = 5
            · rw [if_pos h55]
              exact ⟨i, Nat.le_refl _, ⟨hi, hp, fun _ => hpre, fun q => by cases q⟩, hw⟩
            · rw [if_neg h55]
              exact hw
    · obtain rfl : i = S.length := by omega
      exact ih S.length l c acc (by omega) (Nat.le_refl _) hp
theorem scan_at0 (S : List UInt8) : ScT S 0 [] (scL S 1 1 []) := scan_at S S.length 0 1 1 [] (by omega) (Nat.zero_le _) rfl
end Go.Proofs.Ythchgjjnlnadnaa
