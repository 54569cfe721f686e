/- Clock: program and document read alike. -/
import Derived.Test.YtlckgdgmanmbhaaDoorRows
import Derived.Test.YtlckgdgmanmbhaaDoorRowKit
import Derived.Test.YtlckgdgmanmbhaaDoorShelf
import Derived.Test.YtlckgdgmanmbhaaDoorDigI
import Derived.Test.YtlckgdgmanmbhaaDoorClockB
import Derived.Test.YtlckgdgmanmbhaaDoorClockF
import Derived.WalkKit
import Derived.IntWalk
import Derived.Lib.Hide
import Derived.Lib.ItoaLen
import Derived.Lib.ItoaMem
import Derived.WalkSpells
import Derived.WalkLawsBesides
import Derived.Laws.IdiomStrings
import Derived.Laws.StructEq
import Derived.Deep.QuietTactic
import Derived.BigQuiet
import Derived.BigRegion
import Derived.Deep.LoopGhost
import Derived.OwnWalk
namespace Go.Proofs.YtlckgdgmanmbhaaDoor
open Go.RowKit Go.Sort
set_option linter.unusedSimpArgs false
set_option linter.unusedVariables false
theorem ck_eg : ckL 90061 = [49, 100, 48, 49, 58, 48, 49, 58, 48, 49] := by
  have e : Lib.itoa ((90061 / 86400 : Nat) : Int) = [49] := by
    rw [Lib.itoa_nonneg, Lib.decDigits_one (by decide)]; rfl
  unfold ckL
  rw [if_neg (by decide)]
  show ckP 90061 = _
  unfold ckP
  rw [if_neg (by decide), e]
  decide +kernel
set_option maxRecDepth 100000 in
set_option maxHeartbeats 1000000 in
theorem ckalive (w : World) (ht : Tab w) :
    Calls Tryd.prog 8 #[] w fun e w' => e = .returned (.bool true) ∧ Below w.heap.size w w' := by
  have H := ctext_any 90061 w ht (by omega) (by omega)
  rw [ck_eg] at H
  have H := Lib.hid H
  clear ht
  go_enter Tryd.func8, Tryd.ntmps8
  go_wp2_with fail
  refine H.out.mono ?_
  rintro e w1 ⟨rfl, hb⟩
  go_wp2_with fail
  go_ret
  exact ⟨rfl, hb⟩

theorem split_at (c : UInt8) : ∀ S : List UInt8, c ∈ S → ∃ P B, S = P ++ c :: B ∧ c ∉ P
  | [], h => by simp at h
  | x :: S, h => by
    by_cases hx : x = c
    · exact ⟨[], S, by rw [hx]; rfl, by simp⟩
    · obtain ⟨P, B, e, hP⟩ := split_at c S (by
        rcases List.mem_cons.1 h with q | q
        · exact absurd q.symm hx
        · exact q)
      exact ⟨x :: P, B, by rw [e]; rfl, by
        intro q
        rcases List.mem_cons.1 q with q | q
        · exact hx q.symm
        · exact hP q⟩
theorem pre_of (P : List UInt8) : Lib.hasPrefix P [45] = true ↔ P.head? = some 45 := by
  cases P with
  | nil => simp [Lib.hasPrefix]
  | cons x T => simp [Lib.hasPrefix]; exact eq_comm
theorem pre_itoa (n : Int) : (Lib.hasPrefix (Lib.itoa n) [45] = true) ↔ n < 0 := by
  by_cases h : n < 0
  · have e : Lib.itoa n = 45 :: Lib.decDigits n.natAbs := by unfold Lib.itoa; rw [if_pos h]
    rw [e, (pre_yes _).1]; simp [h]
  · have e : Lib.itoa n = Lib.decDigits n.toNat := by
      obtain ⟨k, hk⟩ : ∃ k : Nat, n = k := ⟨n.toNat, by omega⟩
      rw [hk, Lib.itoa_nonneg]; rfl
    rw [e, (pre_no (allD_dec _)).1]; simp; omega
def Both (S : List UInt8) (v r : Int) : Prop := (∀ w, Calls Tryd.prog 6 #[.string (bL S)] w fun e w' => e = .returned (.tuple #[.int .i64 v, .int .i64 r]) ∧ ∃ n, w' = w.drewN n) ∧ (∀ w, Calls Tryd.prog 7 #[.string (bL S)] w fun e w' => e = .returned (.tuple #[.int .i64 v, .int .i64 r]) ∧ Below w.heap.size w w') ∧ (r = 0 ∨ r = 10 ∨ r = 20)
theorem mem_ix {S : List UInt8} {k : Nat} (h : k < (bL S).size) : (bL S)[k]'h ∈ S := by
  have hk : k < S.length := by rw [bL_size] at h; exact h
  rw [bL_at S k h hk]; exact List.getElem_mem hk
theorem ne100 {S : List UInt8} (hn : (100 : UInt8) ∉ S) : ∀ k (h : k < (bL S).size), ((bL S)[k]'h).toNat ≠ 100 := fun k h q => by
  have e : (bL S)[k]'h = 100 := UInt8.toNat_inj.1 (q.trans rfl)
  have := mem_ix h
  rw [e] at this; exact hn this
theorem both_n (S : List UInt8) (hl : S.length ≤ 100) (hn : (100 : UInt8) ∉ S) : ∃ v r, Both S v r := by
  have hc := fun w => cut_of _ _ _ false 100 w (scut_no S 100 w hn)
  by_cases g : ∃ q, q < 86400 ∧ S = hms q
  · obtain ⟨q, hq, rfl⟩ := g
    refine ⟨q, 0, fun w => ?_, fun w => ?_, Or.inl rfl⟩
    · have h := cread_n (bL (hms q)) _ _ q true w (hc w) (fun w => time_yes q w hq) (by omega) (by omega)
      rw [if_pos rfl, if_pos rfl] at h; exact h
    · have h := rr_n (bL (hms q)) (hms q) w (by rw [bL_size]; omega) (ne100 hn) (by rw [bL_sub, bL_size]; simp) (hms_len q)
      have hg := (gd_iff (hms q)).2 ⟨q, hq, rfl⟩
      have hx : xOf (hms q) = q := rs_hms q hq
      rw [if_pos hg, if_pos hg, hx] at h; exact h
  · have hno : ∀ q, q < 86400 → S ≠ hms q := fun q hq e => g ⟨q, hq, e⟩
    refine ⟨0, 20, fun w => ?_, fun w => ?_, Or.inr (Or.inr rfl)⟩
    · have h := cread_n (bL S) _ _ 0 false w (hc w) (fun w => time_no S w (by omega) hno) (by omega) (by omega)
      rw [if_neg (by simp), if_neg (by simp)] at h; exact h
    · have hD : (bL S).extract 0 (bL S).size = bL S := by rw [bL_sub, bL_size]; simp
      by_cases h8 : S.length = 8
      · have h := rr_n (bL S) S w (by rw [bL_size]; omega) (ne100 hn) hD h8
        have hg : ¬ gdT (xOf S) S := fun q => g ((gd_iff S).1 q)
        rw [if_neg hg, if_neg hg] at h; exact h
      · exact rr_n_bad (bL S) S w (by rw [bL_size]; omega) (ne100 hn) hD h8
theorem ck_rd {n r q : Int} {m : Bool} (hr : r = 0 ∨ r = 10 ∨ r = 20) (hm : r = 0 → (m = true ↔ n < 0)) : ckN (dyN m n r) (dyE m n r) q true = rdN n r q m ∧ ckE (dyN m n r) (dyE m n r) q true = rdE n r q m ∧ (rdE n r q m = 0 ∨ rdE n r q m = 10 ∨ rdE n r q m = 20) := by
  unfold ckN ckE rdN rdE
  cases m with
  | true =>
    have hd : dyE true n r = 20 := if_pos (Or.inl rfl)
    have hB : ckB (dyE true n r) true := Or.inl hd
    have hR : rbB n r true := by
      rcases hr with h | h | h
      · exact Or.inr (Or.inr ⟨h, by have := (hm h).1 rfl; omega⟩)
      · exact Or.inr (Or.inl ⟨h, rfl⟩)
      · exact Or.inl h
    rw [if_pos hB, if_pos hB, if_pos hR, if_pos hR]
    exact ⟨rfl, rfl, Or.inr (Or.inr rfl)⟩
  | false =>
    rcases hr with h | h | h
    · subst h
      have hn : ¬ n < 0 := fun q => by have := (hm rfl).2 q; cases this
      by_cases h0 : n = 0
      · have hd : dyE false n 0 = 20 := if_pos (Or.inr ⟨rfl, h0⟩)
        have hB : ckB (dyE false n 0) true := Or.inl hd
        have hR : rbB n 0 false := Or.inr (Or.inr ⟨rfl, by omega⟩)
        rw [if_pos hB, if_pos hB, if_pos hR, if_pos hR]
        exact ⟨rfl, rfl, Or.inr (Or.inr rfl)⟩
      · have hd : dyE false n 0 = 0 := if_neg (by simp [h0])
        have hd2 : dyN false n 0 = n := if_neg (by simp [h0])
        have hB : ¬ ckB (dyE false n 0) true := by rw [hd]; unfold ckB; simp
        have hR : ¬ rbB n 0 false := by unfold rbB; simp; omega
        rw [if_neg hB, if_neg hB, if_neg hR, if_neg hR, hd, hd2]
        by_cases hg : 12725829 < n ∨ 1099511627776 < n * 86400 + q
        · have g1 : ckG n 0 q := Or.inr hg
          have g2 : rbG n 0 q := Or.inr hg
          rw [if_pos g1, if_pos g1, if_pos g2, if_pos g2]
          exact ⟨rfl, rfl, Or.inr (Or.inl rfl)⟩
        · have g1 : ¬ ckG n 0 q := by unfold ckG; simp; omega
          have g2 : ¬ rbG n 0 q := by unfold rbG; simp; omega
          rw [if_neg g1, if_neg g1, if_neg g2, if_neg g2]
          exact ⟨rfl, rfl, Or.inl rfl⟩
    · subst h
      have hd : dyE false n 10 = 10 := if_neg (by simp)
      have hB : ¬ ckB (dyE false n 10) true := by rw [hd]; unfold ckB; simp
      have hR : ¬ rbB n 10 false := by unfold rbB; simp
      have g1 : ckG (dyN false n 10) (dyE false n 10) q := Or.inl (by rw [hd]; omega)
      have g2 : rbG n 10 q := Or.inl rfl
      rw [if_neg hB, if_neg hB, if_neg hR, if_neg hR, if_pos g1, if_pos g1, if_pos g2, if_pos g2]
      exact ⟨rfl, rfl, Or.inr (Or.inl rfl)⟩
    · subst h
      have hd : dyE false n 20 = 20 := if_neg (by simp)
      have hB : ckB (dyE false n 20) true := Or.inl hd
      have hR : rbB n 20 false := Or.inl rfl
      rw [if_pos hB, if_pos hB, if_pos hR, if_pos hR]
      exact ⟨rfl, rfl, Or.inr (Or.inr rfl)⟩
theorem ck_off (dn de q : Int) : ckN dn de q false = 0 ∧ ckE dn de q false = 20 := by
  unfold ckN ckE
  have hB : ckB de false := Or.inr rfl
  rw [if_pos hB, if_pos hB]; exact ⟨rfl, rfl⟩
theorem both_d (P D : List UInt8) (hl : (P ++ 100 :: D).length ≤ 100) (hn : (100 : UInt8) ∉ P) : ∃ v r, Both (P ++ 100 :: D) v r := by
  obtain ⟨n, r, h1, h2, b0, b1, hr⟩ := alike_any P (by rw [List.length_append] at hl; omega)
  obtain ⟨m, hm⟩ : ∃ m, Lib.hasPrefix P [45] = m := ⟨_, rfl⟩
  have hr3 : r = 0 ∨ r = 10 ∨ r = 20 := by
    rcases hr with h | h | h
    · exact Or.inl h.1
    · exact Or.inr (Or.inl h)
    · exact Or.inr (Or.inr h)
  have hmn : r = 0 → (m = true ↔ n < 0) := fun h => by
    rcases hr with q | q | q
    · rw [← hm, ← q.2]; exact pre_itoa n
    · omega
    · omega
  have hl' : P.length + (D.length + 1) ≤ 100 := by simpa using hl
  have hc := fun w => cut_of _ _ _ true 100 w (scut_yes P D 100 w hn (by omega))
  have hd := fun w => days_rd P m n r w hm h1
  have hsz : (bL (P ++ 100 :: D)).size = P.length + (D.length + 1) := by rw [bL_size]; simp
  have hlt : P.length < (bL (P ++ 100 :: D)).size := by omega
  have hf : ∀ k (h : k < P.length), ((bL (P ++ 100 :: D))[k]'(by omega)).toNat ≠ 100 := fun k h q => by
    have e : (bL (P ++ 100 :: D))[k]'(by omega) = 100 := UInt8.toNat_inj.1 (q.trans rfl)
    rw [bL_at _ k _ (by simp; omega), List.getElem_append_left h] at e
    exact hn (by rw [← e]; exact List.getElem_mem h)
  have h100 : ((bL (P ++ 100 :: D))[P.length]'hlt).toNat = 100 := by
    rw [bL_at _ _ _ (by simp), List.getElem_append_right (by omega)]; simp
  have hD : (bL (P ++ 100 :: D)).extract (P.length + 1) (bL (P ++ 100 :: D)).size = bL D := bL_rest P D 100 _ (bL_size _)
  have hA : (bL (P ++ 100 :: D)).extract 0 P.length = bL P := bL_head P (100 :: D)
  have hms0 : ∀ h : 0 < (bL (P ++ 100 :: D)).size, ((bL (P ++ 100 :: D))[0]'h).toNat = 45 ↔ m = true := fun h => by
    rw [← hm, pre_of]
    rw [bL_at _ _ _ (by simp; omega)]
    cases P with
    | nil => simp
    | cons x T =>
      simp only [List.cons_append, List.getElem_cons_zero, List.head?_cons, Option.some.injEq]
      constructor
      · intro q; exact UInt8.toNat_inj.1 (q.trans rfl)
      · intro q; rw [q]; rfl
  have hd0 : -9223372036854775808 ≤ dyN m n r := by unfold dyN; split <;> omega
  have hd1 : dyE m n r = 0 → 0 ≤ dyN m n r := fun h => by
    unfold dyE at h
    unfold dyN
    split at h
    · omega
    · rename_i q
      rw [if_neg q]
      have := hmn h
      cases m with
      | true => exact absurd (Or.inl rfl) q
      | false =>
        have : ¬ n < 0 := fun z => by have := this.2 z; cases this
        omega
  by_cases g : ∃ q, q < 86400 ∧ D = hms q
  · obtain ⟨q, hq, rfl⟩ := g
    obtain ⟨c1, c2, c3⟩ := ck_rd (n := n) (r := r) (q := q) (m := m) hr3 hmn
    refine ⟨rdN n r q m, rdE n r q m, fun w => ?_, fun w => ?_, c3⟩
    · have h := cread_d (bL (P ++ 100 :: hms q)) (bL P) (bL (hms q)) (dyN m n r) (dyE m n r) q true w (hc w) hd (fun w => time_yes q w hq) hd0 hd1 (by omega) (by omega)
      rw [c1, c2] at h; exact h
    · have h := rr_d (bL (P ++ 100 :: hms q)) (bL P) (hms q) n r m w (by omega) P.length hlt hf h100 hD (hms_len q) hA h2 hr3 (by omega) hms0 b0
      have hg := (gd_iff (hms q)).2 ⟨q, hq, rfl⟩
      have hx : xOf (hms q) = q := rs_hms q hq
      rw [if_pos hg, if_pos hg, hx] at h; exact h
  · have hno : ∀ q, q < 86400 → D ≠ hms q := fun q hq e => g ⟨q, hq, e⟩
    obtain ⟨c1, c2⟩ := ck_off (dyN m n r) (dyE m n r) 0
    refine ⟨0, 20, fun w => ?_, fun w => ?_, Or.inr (Or.inr rfl)⟩
    · have h := cread_d (bL (P ++ 100 :: D)) (bL P) (bL D) (dyN m n r) (dyE m n r) 0 false w (hc w) hd (fun w => time_no D w (by omega) hno) hd0 hd1 (by omega) (by omega)
      rw [c1, c2] at h; exact h
    · by_cases h8 : D.length = 8
      · have h := rr_d (bL (P ++ 100 :: D)) (bL P) D n r m w (by omega) P.length hlt hf h100 hD h8 hA h2 hr3 (by omega) hms0 b0
        have hg : ¬ gdT (xOf D) D := fun q => g ((gd_iff D).1 q)
        rw [if_neg hg, if_neg hg] at h; exact h
      · exact rr_d_bad (bL (P ++ 100 :: D)) D w (by omega) P.length hlt hf h100 hD h8
theorem both_any (S : List UInt8) (hl : S.length ≤ 100) : ∃ v r, Both S v r := by
  by_cases h : (100 : UInt8) ∈ S
  · obtain ⟨P, D, rfl, hP⟩ := split_at 100 S h
    exact both_d P D hl hP
  · exact both_n S hl h
theorem hms_no (q : Nat) (hq : q < 86400) : (100 : UInt8) ∉ hms q := fun h => by
  rw [hms_list] at h
  have t : ∀ n, n < 10 → (100 : UInt8) ≠ dgt n := fun n hn e => by
    have := congrArg UInt8.toNat e
    rw [dgt_nat hn] at this
    have e2 : (100 : UInt8).toNat = 100 := rfl
    omega
  simp only [List.mem_cons, List.mem_nil_iff, or_false] at h
  rcases h with h | h | h | h | h | h | h | h
  · exact t _ (by omega) h
  · exact t _ (by omega) h
  · exact absurd h (by decide)
  · exact t _ (by omega) h
  · exact t _ (by omega) h
  · exact absurd h (by decide)
  · exact t _ (by omega) h
  · exact t _ (by omega) h
/-- what is written is read as it was -/
theorem back_any (t : Nat) (h : t ≤ 1099511627776) (w : World) : Calls Tryd.prog 6 #[.string (bL (ckP t))] w fun e w' => e = .returned (.tuple #[.int .i64 t, .int .i64 0]) ∧ ∃ n, w' = w.drewN n := by
  unfold ckP
  by_cases h0 : t < 86400
  · rw [if_pos h0, Nat.mod_eq_of_lt h0]
    have hq := cread_n (bL (hms t)) _ _ t true w (cut_of _ _ _ false 100 w (scut_no (hms t) 100 w (hms_no t h0))) (fun w => time_yes t w h0) (by omega) (by omega)
    rw [if_pos rfl, if_pos rfl] at hq; exact hq
  · rw [if_neg h0]
    obtain ⟨d, hd⟩ : ∃ d, t / 86400 = d := ⟨_, rfl⟩
    obtain ⟨q, hq⟩ : ∃ q, t % 86400 = q := ⟨_, rfl⟩
    have hq1 : q < 86400 := by omega
    have hd1 : 0 < d := by omega
    have ht : t = d * 86400 + q := by omega
    rw [hd, hq]
    have hi : Lib.itoa ((d : Nat) : Int) = Lib.decDigits d := Lib.itoa_nonneg d
    have hn : (100 : UInt8) ∉ Lib.itoa ((d : Nat) : Int) := fun q => by
      rw [hi] at q
      have := allD_dec d 100 q
      have e2 : (100 : UInt8).toNat = 100 := rfl
      omega
    have hm : Lib.hasPrefix (Lib.itoa ((d : Nat) : Int)) [45] = false := by rw [hi]; exact (pre_no (allD_dec d)).1
    have hlen : (Lib.itoa ((d : Nat) : Int) ++ 100 :: hms q).length ≤ 1000000 := by
      have := ckP_len t (by omega)
      unfold ckP at this
      rw [if_neg h0, hd, hq] at this
      simp at this
      rw [List.length_append, List.length_cons, hms_len]; omega
    have hh := cread_d (bL (Lib.itoa ((d : Nat) : Int) ++ 100 :: hms q)) (bL (Lib.itoa ((d : Nat) : Int))) (bL (hms q)) (dyN false d 0) (dyE false d 0) q true w (cut_of _ _ _ true 100 w (scut_yes _ (hms q) 100 w hn hlen)) (fun w => days_rd _ false d 0 w hm (fun w => read_itoa d w (by omega) (by omega))) (fun w => time_yes q w hq1) (by unfold dyN; rw [if_neg (by simp; omega)]; omega) (fun _ => by unfold dyN; rw [if_neg (by simp; omega)]; omega) (by omega) (by omega)
    obtain ⟨c1, c2, _⟩ := ck_rd (n := d) (r := 0) (q := q) (m := false) (Or.inl rfl) (fun _ => by constructor <;> intro z <;> first | cases z | omega)
    have hR : ¬ rbB (d : Int) 0 false := by unfold rbB; simp; omega
    have hG : ¬ rbG (d : Int) 0 q := by unfold rbG; simp; omega
    rw [c1, c2] at hh
    unfold rdN rdE at hh
    rw [if_neg hR, if_neg hR, if_neg hG, if_neg hG] at hh
    rw [show Lib.itoa ((d : Nat) : Int) ++ [100] ++ hms q = Lib.itoa ((d : Nat) : Int) ++ 100 :: hms q by simp, show ((t : Nat) : Int) = (d : Int) * 86400 + q by omega]
    exact hh
end Go.Proofs.YtlckgdgmanmbhaaDoor
