/- Lexer: mathematics: the tokens of a text, byte by byte and line by line. -/
import Derived.Test.YthchgjjnlnadnaaRows
import Derived.Test.YthchgjjnlnadnaaBL
namespace Go.Proofs.Ythchgjjnlnadnaa
set_option linter.unusedVariables false
set_option linter.unusedSimpArgs false
/-- what a byte is: 0 none, 1 a blank, 2 a comment's sign, 3 a line's end, 4 a letter, 5 a digit -/
def kndL (c : UInt8) : Nat := if c.toNat = 32 ∨ c.toNat = 9 ∨ c.toNat = 13 then 1 else if c.toNat = 35 then 2 else if c.toNat = 10 then 3 else if 97 ≤ c.toNat ∧ c.toNat ≤ 122 then 4 else if 48 ≤ c.toNat ∧ c.toNat ≤ 57 then 5 else 0
/-- does a byte go on what one of a kind began? -/
def cntL (k : Nat) (y : UInt8) : Bool := (k == 4 && kndL y == 4) || (k == 5 && kndL y == 5) || (k == 2 && y.toNat != 10)
def rnL (k : Nat) (R : List UInt8) : List UInt8 := R.takeWhile (cntL k)
structure Tk where
  k : Nat
  t : List UInt8
  n : Nat
  l : Nat
  c : Nat
inductive ScR where
  | ok (l : List Tk)
  | bad (e l c : Nat)
def nvL : List UInt8 → Nat → Nat
  | [], n => n
  | x :: L, n => nvL L (10 * n + (x.toNat - 48))
def nokL (W : List UInt8) : Bool := decide (nvL W 0 ≤ 1073741824) && (W.length == 1 || (W.head?.map (·.toNat) != some 48))
def tokL (k : Nat) (W : List UInt8) (l c : Nat) : List Tk := if k = 3 then [⟨3, [], 0, l, c⟩] else if k = 4 then [⟨1, W, 0, l, c⟩] else if k = 5 then [⟨2, W, nvL W 0, l, c⟩] else []
def endL (acc : List Tk) : Bool := acc.getLast?.map (·.k) == some 3
def scL : List UInt8 → Nat → Nat → List Tk → ScR
  | [], l, c, acc => .ok (acc ++ if endL acc then [] else [⟨3, [], 0, l, c⟩])
  | x :: R, l, c, acc =>
    if kndL x = 0 then .bad 190 l c else if kndL x = 5 ∧ nokL (x :: rnL 5 R) = false then .bad 191 l c
    else scL (R.drop (rnL (kndL x) R).length) (if kndL x = 3 then l + 1 else l) (if kndL x = 3 then 1 else c + 1 + (rnL (kndL x) R).length) (acc ++ tokL (kndL x) (x :: rnL (kndL x) R) l c)
termination_by R => R.length
decreasing_by simp only [List.length_drop, List.length_cons]; omega
theorem scL_nil (l c : Nat) (acc : List Tk) : scL [] l c acc = .ok (acc ++ if endL acc then [] else [⟨3, [], 0, l, c⟩]) := by rw [scL]
theorem scL_none {x : UInt8} (h : kndL x = 0) (R : List UInt8) (l c : Nat) (acc : List Tk) : scL (x :: R) l c acc = .bad 190 l c := by rw [scL, if_pos h]
theorem scL_num {x : UInt8} (h : kndL x = 5) {R : List UInt8} (hn : nokL (x :: rnL 5 R) = false) (l c : Nat) (acc : List Tk) : scL (x :: R) l c acc = .bad 191 l c := by rw [scL, if_neg (by omega), if_pos ⟨h, hn⟩]
theorem scL_go {x : UInt8} {k : Nat} (hk : kndL x = k) (h0 : k ≠ 0) {R : List UInt8} (hn : k = 5 → nokL (x :: rnL 5 R) = true) (l c : Nat) (acc : List Tk) :
    scL (x :: R) l c acc = scL (R.drop (rnL k R).length) (if k = 3 then l + 1 else l) (if k = 3 then 1 else c + 1 + (rnL k R).length) (acc ++ tokL k (x :: rnL k R) l c) := by
  subst hk
  rw [scL, if_neg h0, if_neg (fun h => by have := hn h.1; rw [h.2] at this; cases this)]
theorem tokL_none {k : Nat} (h : k = 1 ∨ k = 2) (W : List UInt8) (l c : Nat) : tokL k W l c = [] := by rcases h with rfl | rfl <;> rfl
theorem rnL_len (k : Nat) (R : List UInt8) : (rnL k R).length ≤ R.length := (List.takeWhile_prefix (cntL k)).length_le
theorem rnL_one {k : Nat} (h : k = 0 ∨ k = 1 ∨ k = 3) (R : List UInt8) : rnL k R = [] := by
  unfold rnL
  cases R with
  | nil => rfl
  | cons y R =>
    rw [List.takeWhile_cons, if_neg]
    unfold cntL
    rcases h with rfl | rfl | rfl <;> simp
theorem cnt_ten (k : Nat) {y : UInt8} (h : y.toNat = 10) : cntL k y = false := by
  have hk : kndL y = 3 := by unfold kndL; rw [h]; rfl
  unfold cntL
  rw [hk, h]
  simp
/-- what may stand behind a line's text: nothing, or its end -/
def TailOk (Z : List UInt8) : Prop := Z = [] ∨ ∃ B, Z = 10 :: B
theorem rnL_app (k : Nat) (R : List UInt8) {Z : List UInt8} (h : TailOk Z) : rnL k (R ++ Z) = rnL k R := by
  have hz : Z.takeWhile (cntL k) = [] := by
    rcases h with rfl | ⟨B, rfl⟩
    · rfl
    · rw [List.takeWhile_cons, if_neg]
      rw [cnt_ten k (by rfl)]
      simp
  unfold rnL
  induction R with
  | nil => simpa using hz
  | cons y R ih =>
    rw [List.cons_append, List.takeWhile_cons, List.takeWhile_cons, ih]
theorem drop_app {m : Nat} {R Z : List UInt8} (h : m ≤ R.length) : (R ++ Z).drop m = R.drop m ++ Z := by
  rw [List.drop_append]
  have : m - R.length = 0 := by omega
  rw [this, List.drop_zero]
/-- the tokens of a line, up to a byte -/
def LnI (T : List UInt8) (l at' : Nat) (L : List Tk) : Prop := ∀ acc Z, TailOk Z → scL (T ++ Z) l 1 acc = scL (T.drop at' ++ Z) l (at' + 1) (acc ++ L)
def LnE (T : List UInt8) (l e c : Nat) : Prop := ∀ acc Z, TailOk Z → scL (T ++ Z) l 1 acc = .bad e l c
theorem lnI_zero (T : List UInt8) (l : Nat) : LnI T l 0 [] := fun acc Z _ => by simp
theorem drop_cons {T : List UInt8} {i : Nat} {x : UInt8} (h : T[i]? = some x) : T.drop i = x :: T.drop (i + 1) := by
  have hi : i < T.length := by
    rcases Nat.lt_or_ge i T.length with q | q
    · exact q
    · rw [List.getElem?_eq_none q] at h; cases h
  rw [List.drop_eq_getElem_cons hi]
  rw [List.getElem?_eq_getElem hi] at h
  injection h with h
  rw [h]
theorem lnI_go {T : List UInt8} {l i k : Nat} {L : List Tk} (h : LnI T l i L) {x : UInt8} (hx : T[i]? = some x) (hk : kndL x = k) (h0 : k ≠ 0) (h3 : k ≠ 3) (hn : k = 5 → nokL (x :: rnL 5 (T.drop (i + 1))) = true) :
    LnI T l (i + 1 + (rnL k (T.drop (i + 1))).length) (L ++ tokL k (x :: rnL k (T.drop (i + 1))) l (i + 1)) := fun acc Z hZ => by
  rw [h acc Z hZ, drop_cons hx, List.cons_append, scL_go hk h0 (fun q => by rw [rnL_app 5 _ hZ]; exact hn q), if_neg h3, if_neg h3, rnL_app k _ hZ, drop_app (rnL_len ..), List.drop_drop, List.append_assoc]
  have e : i + 1 + 1 + (rnL k (List.drop (i + 1) T)).length = i + 1 + (rnL k (List.drop (i + 1) T)).length + 1 := by omega
  rw [e]
theorem lnE_none {T : List UInt8} {l i : Nat} {L : List Tk} (h : LnI T l i L) {x : UInt8} (hx : T[i]? = some x) (hk : kndL x = 0) : LnE T l 190 (i + 1) := fun acc Z hZ => by
  rw [h acc Z hZ, drop_cons hx, List.cons_append, scL_none hk]
theorem lnE_num {T : List UInt8} {l i : Nat} {L : List Tk} (h : LnI T l i L) {x : UInt8} (hx : T[i]? = some x) (hk : kndL x = 5) (hn : nokL (x :: rnL 5 (T.drop (i + 1))) = false) : LnE T l 191 (i + 1) := fun acc Z hZ => by
  rw [h acc Z hZ, drop_cons hx, List.cons_append, scL_num hk (by rw [rnL_app 5 _ hZ]; exact hn)]
/-- a line whole -/
def LnW (T : List UInt8) (l : Nat) (L : List Tk) : Prop := ∀ acc Z, TailOk Z → scL (T ++ Z) l 1 acc = scL Z l (T.length + 1) (acc ++ L)
theorem lnW_end {T : List UInt8} {l : Nat} {L : List Tk} (h : LnI T l T.length L) : LnW T l L := fun acc Z hZ => by
  rw [h acc Z hZ, List.drop_length, List.nil_append]
theorem rn_all {R : List UInt8} (h : ∀ y, y ∈ R → y.toNat ≠ 10) : rnL 2 R = R := by
  unfold rnL
  induction R with
  | nil => rfl
  | cons y R ih =>
    have h1 := h y (by simp)
    rw [List.takeWhile_cons, if_pos, ih (fun z hz => h z (by simp [hz]))]
    unfold cntL
    simp [h1]
theorem lnW_hash {T : List UInt8} {l i : Nat} {L : List Tk} (h : LnI T l i L) {x : UInt8} (hx : T[i]? = some x) (hk : kndL x = 2) (hT : ∀ y, y ∈ T → y.toNat ≠ 10) : LnW T l L := by
  have hi : i < T.length := by
    rcases Nat.lt_or_ge i T.length with q | q
    · exact q
    · rw [List.getElem?_eq_none q] at hx; cases hx
  have h2 := lnI_go h hx hk (by omega) (by omega) (fun q => by omega)
  rw [rn_all (fun y hy => hT y (List.mem_of_mem_drop hy)), tokL_none (Or.inr rfl), List.append_nil, List.length_drop] at h2
  rw [show i + 1 + (T.length - (i + 1)) = T.length by omega] at h2
  exact lnW_end h2
theorem scan_more {T B : List UInt8} {l : Nat} {L : List Tk} (h : LnW T l L) (acc : List Tk) : scL (T ++ 10 :: B) l 1 acc = scL B (l + 1) 1 (acc ++ L ++ [⟨3, [], 0, l, T.length + 1⟩]) := by
  rw [h acc (10 :: B) (Or.inr ⟨B, rfl⟩), scL_go (k := 3) (by rfl) (by omega) (fun q => by omega), rnL_one (by omega)]
  rfl
theorem scan_last {T : List UInt8} {l : Nat} {L : List Tk} (h : LnW T l L) (acc : List Tk) : scL T l 1 acc = .ok (acc ++ L ++ if endL (acc ++ L) then [] else [⟨3, [], 0, l, T.length + 1⟩]) := by
  have := h acc [] (Or.inl rfl)
  rw [List.append_nil] at this
  rw [this, scL_nil]
/-! numbers -/
theorem nv_ge : ∀ (L : List UInt8) (n : Nat), n ≤ nvL L n
  | [], n => Nat.le_refl _
  | x :: L, n => Nat.le_trans (by omega) (nv_ge L _)
theorem nv_app : ∀ (A B : List UInt8) (n : Nat), nvL (A ++ B) n = nvL B (nvL A n)
  | [], B, n => rfl
  | x :: A, B, n => nv_app A B _
theorem nv_take {L : List UInt8} {k : Nat} {x : UInt8} (h : L[k]? = some x) : nvL (L.take (k + 1)) 0 = 10 * nvL (L.take k) 0 + (x.toNat - 48) := by
  rw [List.take_add_one, h, nv_app]
  rfl
theorem nv_mono (L : List UInt8) (k : Nat) : nvL (L.take k) 0 ≤ nvL L 0 := by
  conv => rhs; rw [← List.take_append_drop k L, nv_app]
  exact nv_ge _ _
end Go.Proofs.Ythchgjjnlnadnaa
