/- Columns: mathematics: the pieces between blanks. -/
import Derived.Test.YtkonghjmipclmaaDoorColM
import Derived.Lib.FieldsP
import Derived.Lib.SpaceUEq
namespace Go.Proofs.YtkonghjmipclmaaDoor
set_option linter.unusedVariables false
open Go.Lib
def fldB : List UInt8 → List UInt8 → List (List UInt8)
  | cur, [] => if cur = [] then [] else [cur]
  | cur, b :: l => if b = 32 then (if cur = [] then fldB [] l else cur :: fldB [] l) else fldB (cur ++ [b]) l
theorem fldB_run : ∀ (M cur l : List UInt8), (∀ x, x ∈ M → x ≠ 32) → fldB cur (M ++ l) = fldB (cur ++ M) l
  | [], cur, l, _ => by simp
  | b :: M, cur, l, h => by
    rw [List.cons_append]
    show (if b = 32 then _ else _) = _
    rw [if_neg (h b (by simp)), fldB_run M (cur ++ [b]) l (fun x hx => h x (by simp [hx]))]
    simp
theorem fldB_nil (cur : List UInt8) : fldB cur [] = if cur = [] then [] else [cur] := by unfold fldB; rfl
theorem fldB_sp (cur l : List UInt8) : fldB cur (32 :: l) = (if cur = [] then [] else [cur]) ++ fldB [] l := by
  show (if (32 : UInt8) = 32 then _ else _) = _
  rw [if_pos rfl]
  by_cases h : cur = []
  · rw [if_pos h, if_pos h, List.nil_append]
  · rw [if_neg h, if_neg h, List.singleton_append]
theorem fldB_app : ∀ (A cur B : List UInt8), fldB cur (A ++ 32 :: B) = fldB cur A ++ fldB [] B
  | [], cur, B => by rw [List.nil_append, fldB_sp, fldB_nil]
  | b :: A, cur, B => by
    rw [List.cons_append]
    by_cases h : b = 32
    · subst h
      rw [fldB_sp, fldB_sp, fldB_app A [] B, List.append_assoc]
    · show (if b = 32 then _ else _) = (if b = 32 then _ else _) ++ _
      rw [if_neg h, if_neg h, fldB_app A _ B]
theorem fldB_lead (M : List UInt8) : ∀ k, fldB [] (List.replicate k 32 ++ M) = fldB [] M
  | 0 => rfl
  | k + 1 => by rw [List.replicate_succ, List.cons_append, fldB_sp, if_pos rfl, List.nil_append, fldB_lead M k]
theorem fldB_blanks (k : Nat) : fldB [] (List.replicate k 32) = [] := by
  have h := fldB_lead [] k
  rw [List.append_nil] at h
  rw [h, fldB_nil, if_pos rfl]
theorem fldB_trail (A : List UInt8) (k : Nat) : fldB [] (A ++ List.replicate k 32) = fldB [] A := by
  cases k with
  | zero => simp
  | succ k => rw [List.replicate_succ, fldB_app, fldB_blanks, List.append_nil]
theorem fldB_one {M : List UInt8} (h : ∀ x, x ∈ M → x ≠ 32) (h0 : M ≠ []) : fldB [] M = [M] := by
  have e := fldB_run M [] [] h
  rw [List.append_nil, List.nil_append, fldB_nil, if_neg h0] at e
  exact e
/-- the pieces of a full line -/
theorem fldB_fu {wd : Nat → Int} {nw : Nat} {t : Nat → List UInt8} : ∀ n, (∀ i, i < n → (∀ x, x ∈ t i → x ≠ 32) ∧ t i ≠ []) → fldB [] (fuC wd nw t n) = (List.range n).map t
  | 0, _ => by rw [fuC_zero, fldB_nil, if_pos rfl]; rfl
  | n + 1, h => by
    have hn := h n (by omega)
    by_cases h0 : n = 0
    · subst h0
      rw [fuC_one, fldB_trail, fldB_one hn.1 hn.2]
      rfl
    · rw [fuC_succ _ _ _ (by omega)]
      rw [show fuC wd nw t n ++ ([32, 32] ++ List.replicate (lkC wd nw t n) 32 ++ t n) = fuC wd nw t n ++ 32 :: (32 :: (List.replicate (lkC wd nw t n) 32 ++ t n)) by simp]
      rw [fldB_app, fldB_sp, if_pos rfl, List.nil_append, fldB_lead, fldB_one hn.1 hn.2, fldB_fu n (fun i hi => h i (by omega)), List.range_succ, List.map_append]
      rfl
theorem fldB_ln {wd : Nat → Int} {nw : Nat} {t : Nat → List UInt8} (n : Nat) (h : ∀ i, i < n → (∀ x, x ∈ t i → x ≠ 32) ∧ t i ≠ []) : fldB [] (lnC wd nw t n) = (List.range n).map t := by
  rw [← fldB_fu (wd := wd) (nw := nw) n h]
  unfold lnC
  obtain ⟨k, hk⟩ := tr_split (fuC wd nw t n) 32
  conv => rhs; rw [hk]
  rw [fldB_trail]
/-! runes -/
theorem decodeN_not32 (n b0 b1 b2 b3 : Nat) (h : b0 ≠ 32) : (decodeN n b0 b1 b2 b3).1 ≠ 32 := by
  unfold decodeN
  repeat' split
  all_goals (simp only; omega)
theorem byte32 {x : UInt8} (h : x.toNat = 32) : x = 32 := UInt8.toNat_inj.1 h
theorem step_sp {s : ByteArray} {pos : Nat} (h : s.data.toList.getD pos 0 = 32) : Utf8.decode s pos = (32, 1) := by
  rw [decode_N, h]
  exact decodeN_ascii _ _ _ _ _ (by decide)
theorem step_ne {s : ByteArray} {pos : Nat} (hp : pos < s.data.toList.length) (h : s.data.toList.getD pos 0 ≠ 32) :
    (Utf8.decode s pos).1 ≠ 32 ∧ 1 ≤ (Utf8.decode s pos).2 ∧ pos + (Utf8.decode s pos).2 ≤ s.data.toList.length ∧ ∀ j, j < (Utf8.decode s pos).2 → s.data.toList.getD (pos + j) 0 ≠ 32 := by
  rw [decode_N]
  have h0 : (s.data.toList.getD pos 0).toNat ≠ 32 := fun e => h (byte32 e)
  have hc := decodeN_conts (s.data.toList.length - pos) (s.data.toList.getD pos 0).toNat (s.data.toList.getD (pos + 1) 0).toNat (s.data.toList.getD (pos + 2) 0).toNat (s.data.toList.getD (pos + 3) 0).toNat
  have hl := decodeN_le_n' (s.data.toList.length - pos) (s.data.toList.getD pos 0).toNat (s.data.toList.getD (pos + 1) 0).toNat (s.data.toList.getD (pos + 2) 0).toNat (s.data.toList.getD (pos + 3) 0).toNat (by omega)
  have hg := decodeN_ge1 (s.data.toList.length - pos) (s.data.toList.getD pos 0).toNat (s.data.toList.getD (pos + 1) 0).toNat (s.data.toList.getD (pos + 2) 0).toNat (s.data.toList.getD (pos + 3) 0).toNat
  refine ⟨decodeN_not32 _ _ _ _ _ h0, hg, by omega, ?_⟩
  intro j hj e
  have e2 : (s.data.toList.getD (pos + j) 0).toNat = 32 := by rw [e]; rfl
  have hj4 : j = 0 ∨ j = 1 ∨ j = 2 ∨ j = 3 := by omega
  rcases hj4 with rfl | rfl | rfl | rfl
  · exact h0 e2
  · have := (hc.1 (by omega)).1; omega
  · have := (hc.2.1 (by omega)).1; omega
  · have := (hc.2.2.1 (by omega)).1; omega
theorem mem_run {L : List UInt8} {pos k : Nat} (hk : ∀ j, j < k → L.getD (pos + j) 0 ≠ 32) : ∀ x, x ∈ (L.drop pos).take k → x ≠ 32 := by
  intro x hx
  obtain ⟨j, hj, rfl⟩ := List.mem_iff_getElem.1 hx
  have hj' := hj
  rw [List.length_take, List.length_drop] at hj'
  have := hk j (by omega)
  rw [List.getElem_take, List.getElem_drop]
  rw [List.getD_eq_getElem?_getD, List.getElem?_eq_getElem (by omega)] at this
  exact this
def p32 (x : Nat) : Bool := x == 32
theorem spans_32 (s : ByteArray) : ∀ (f pos : Nat) (st : Option Nat) (acc : List (Nat × Nat)), s.data.toList.length ≤ pos + f → pos ≤ s.data.toList.length → (∀ a, st = some a → a < pos) →
    (closeSpans s (spansFromP p32 s f pos st acc)).map (fun x => pieceU s.data.toList x.1 x.2) = acc.map (fun x => pieceU s.data.toList x.1 x.2) ++ fldB (openPiece s.data.toList st pos) (s.data.toList.drop pos)
  | f, pos, st, acc, h, hp, hst => by
    have hsz : s.size = s.data.toList.length := by rw [ByteArray.size]; simp
    by_cases hlt : pos < s.data.toList.length
    · obtain ⟨f, rfl⟩ : ∃ g, f = g + 1 := ⟨f - 1, by omega⟩
      have hd : s.data.toList.drop pos = s.data.toList.getD pos 0 :: s.data.toList.drop (pos + 1) := by
        rw [List.drop_eq_getElem_cons hlt, List.getD_eq_getElem?_getD, List.getElem?_eq_getElem hlt]; rfl
      unfold spansFromP
      rw [if_pos (by omega)]
      by_cases hb : s.data.toList.getD pos 0 = 32
      · rw [step_sp hb]
        show (closeSpans s (if p32 32 = true then _ else _)).map _ = _
        rw [if_pos (by decide)]
        cases st with
        | none =>
          rw [hd, hb]
          show (closeSpans s (spansFromP p32 s f (pos + 1) none acc)).map _ = _
          rw [spans_32 s f (pos + 1) none acc (by omega) (by omega) (fun a e => by cases e), fldB_sp]
          rfl
        | some a =>
          have ha := hst a rfl
          rw [hd, hb]
          show (closeSpans s (spansFromP p32 s f (pos + 1) none (acc ++ [(a, pos)]))).map _ = _
          rw [spans_32 s f (pos + 1) none _ (by omega) (by omega) (fun a e => by cases e), fldB_sp, List.map_append, List.append_assoc]
          have hne : openPiece s.data.toList (some a) pos ≠ [] := pieceU_ne _ _ _ ha hp
          rw [if_neg hne]
          rfl
      · obtain ⟨h1, h2, h3, h4⟩ := step_ne hlt hb
        have hpn : p32 (Utf8.decode s pos).1 = false := by unfold p32; rw [beq_eq_false_iff_ne]; exact h1
        rw [hpn, if_neg (by decide)]
        have hrun := mem_run (L := s.data.toList) h4
        obtain ⟨k, hk⟩ : ∃ k, (Utf8.decode s pos).2 = k := ⟨_, rfl⟩
        rw [hk] at h2 h3 hrun
        have hsp : s.data.toList.drop pos = (s.data.toList.drop pos).take k ++ s.data.toList.drop (pos + k) := by
          conv => lhs; rw [← List.take_append_drop k (s.data.toList.drop pos)]
          rw [List.drop_drop]
        rw [hsp, fldB_run _ _ _ hrun]
        cases st with
        | none =>
          show (closeSpans s (spansFromP p32 s f (pos + (Utf8.decode s pos).2) (some pos) acc)).map _ = _
          rw [hk, spans_32 s f (pos + k) (some pos) acc (by omega) (by omega) (fun a e => by cases e; omega)]
          have e := pieceU_grow s.data.toList pos pos k (Nat.le_refl _)
          have e0 : pieceU s.data.toList pos pos = [] := by unfold pieceU; simp
          rw [e0] at e
          show _ ++ fldB (pieceU s.data.toList pos (pos + k)) _ = _ ++ fldB ([] ++ _) _
          rw [e]
        | some a =>
          have ha := hst a rfl
          show (closeSpans s (spansFromP p32 s f (pos + (Utf8.decode s pos).2) (some a) acc)).map _ = _
          rw [hk, spans_32 s f (pos + k) (some a) acc (by omega) (by omega) (fun b e => by cases e; omega)]
          show _ ++ fldB (pieceU s.data.toList a (pos + k)) _ = _ ++ fldB (pieceU s.data.toList a pos ++ _) _
          rw [pieceU_grow _ _ _ _ (by omega)]
    · have hpe : pos = s.data.toList.length := by omega
      rw [spansFromP_end p32 s f pos st acc (by omega)]
      have hd : s.data.toList.drop pos = [] := List.drop_eq_nil_of_le (by omega)
      rw [hd, fldB_nil]
      cases st with
      | none => simp [closeSpans, openPiece]
      | some a =>
        have hne : openPiece s.data.toList (some a) pos ≠ [] := pieceU_ne _ _ _ (hst a rfl) hp
        rw [if_neg hne]
        subst hpe
        show (acc ++ [(a, s.size)]).map _ = acc.map _ ++ [pieceU s.data.toList a s.data.toList.length]
        rw [List.map_append, ← hsz]
        rfl
termination_by f => f
/-- strings.FieldsFunc at blanks -/
theorem fields_32 (s : ByteArray) : (goFieldsP p32 s).map (·.data.toList) = fldB [] s.data.toList := by
  have hsz : s.size = s.data.toList.length := by rw [ByteArray.size]; simp
  have h := spans_32 s s.size 0 none [] (by omega) (Nat.zero_le _) (fun a e => by cases e)
  simp only [List.map_nil, List.nil_append, List.drop_zero] at h
  unfold goFieldsP spansOfP
  rw [List.map_map]
  refine Eq.trans ?_ h
  congr 1
  funext x
  simp [pieceU]
theorem fields_ln {wd : Nat → Int} {nw : Nat} {tb : Nat → ByteArray} (n : Nat) (h : ∀ i, i < n → (∀ x, x ∈ (tb i).data.toList → x ≠ 32) ∧ (tb i).data.toList ≠ []) : goFieldsP p32 (ByteArray.mk (lnC wd nw (fun i => (tb i).data.toList) n).toArray) = (List.range n).map tb := by
  have h1 := fields_32 (ByteArray.mk (lnC wd nw (fun i => (tb i).data.toList) n).toArray)
  have e : (ByteArray.mk (lnC wd nw (fun i => (tb i).data.toList) n).toArray).data.toList = lnC wd nw (fun i => (tb i).data.toList) n := by simp
  rw [e, fldB_ln n h] at h1
  have h2 := congrArg (List.map (fun l : List UInt8 => ByteArray.mk l.toArray)) h1
  rw [List.map_map, List.map_map] at h2
  have id1 : ((fun l : List UInt8 => ByteArray.mk l.toArray) ∘ fun b : ByteArray => b.data.toList) = id := by funext b; simp
  have id2 : ((fun l : List UInt8 => ByteArray.mk l.toArray) ∘ fun i => (tb i).data.toList) = tb := by funext i; simp
  rw [id1, id2, List.map_id] at h2
  exact h2
end Go.Proofs.YtkonghjmipclmaaDoor
