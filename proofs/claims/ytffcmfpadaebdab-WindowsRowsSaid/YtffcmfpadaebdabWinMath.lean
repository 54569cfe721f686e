/- Windows: which window a tick lies in, what each window has behind so many trips, and all windows together (plain mathematics). -/
import Derived.Test.YtffcmfpadaebdabRows
namespace Go.Proofs.Ytffcmfpadaebdab
def winV (W H : Int) (N : Nat) (t : Int) : Nat := if 0 ≤ t ∧ t < H then (t / W).toNat else N
theorem win_lt {W H : Int} {N : Nat} {t : Int} (hW : 1 ≤ W) (hN : H ≤ N * W) (h : 0 ≤ t ∧ t < H) : winV W H N t < N ∧ ((winV W H N t : Nat) : Int) = t / W := by
  unfold winV
  rw [if_pos h]
  have h0 : 0 ≤ t / W := Int.ediv_nonneg h.1 (by omega)
  have h1 : t / W < N := Int.ediv_lt_of_lt_mul (by omega) (by omega)
  omega
theorem win_out {W H : Int} {N : Nat} {t : Int} (h : ¬ (0 ≤ t ∧ t < H)) : winV W H N t = N := by
  unfold winV; rw [if_neg h]
theorem win_le {W H : Int} {N : Nat} {t : Int} (hW : 1 ≤ W) (hN : H ≤ N * W) : winV W H N t ≤ N := by
  by_cases h : 0 ≤ t ∧ t < H
  · have := (win_lt hW hN h).1; omega
  · rw [win_out h]; exact Nat.le_refl _
theorem win_iff {W H : Int} {N : Nat} {t : Int} (hW : 1 ≤ W) (hN : H ≤ N * W) : winV W H N t < N ↔ (0 ≤ t ∧ t < H) := by
  constructor
  · intro h
    by_cases c : 0 ≤ t ∧ t < H
    · exact c
    · rw [win_out c] at h; omega
  · intro h; exact (win_lt hW hN h).1
/-- a number of a row, taken for another one -/
def putV (f : Nat → Nat → Int) (p j : Nat) (u : Int) : Nat → Nat → Int := fun a b => if a = p ∧ b = j then u else f a b
theorem putV_at (f : Nat → Nat → Int) (p j : Nat) (u : Int) : putV f p j u p j = u := by unfold putV; rw [if_pos ⟨rfl, rfl⟩]
theorem putV_other {f : Nat → Nat → Int} {p j a b : Nat} {u : Int} (h : ¬ (a = p ∧ b = j)) : putV f p j u a b = f a b := by unfold putV; rw [if_neg h]
/-- the sum of a field of the first rows -/
def colV (f : Nat → Nat → Int) (j : Nat) : Nat → Int
  | 0 => 0
  | n + 1 => colV f j n + f n j
theorem col_other {f : Nat → Nat → Int} {p j j' : Nat} {u : Int} (h : j ≠ j') : ∀ n, colV (putV f p j u) j' n = colV f j' n
  | 0 => rfl
  | n + 1 => by
    show colV (putV f p j u) j' n + putV f p j u n j' = _
    rw [col_other h n, putV_other (by omega)]; rfl
theorem col_put {f : Nat → Nat → Int} {p j : Nat} {u : Int} : ∀ n, colV (putV f p j u) j n = colV f j n + if p < n then u - f p j else 0
  | 0 => by simp [colV]
  | n + 1 => by
    show colV (putV f p j u) j n + putV f p j u n j = colV f j n + f n j + _
    rw [col_put n]
    by_cases h : p = n
    · subst h
      rw [putV_at, if_neg (by omega), if_pos (by omega)]; omega
    · rw [putV_other (by omega)]
      by_cases h1 : p < n
      · rw [if_pos h1, if_pos (by omega)]; omega
      · rw [if_neg h1, if_neg (by omega)]; omega
/-- behind one trip more: arrival a, board b, alight c -/
def stpV (W H : Int) (N : Nat) (a b c : Int) (f : Nat → Nat → Int) : Nat → Nat → Int :=
  let pa := winV W H N a; let pb := winV W H N b; let pc := winV W H N c; let pf := winV W H N (max 0 a)
  let f1 := putV f pa 2 (f pa 2 + 1)
  let f2 := putV f1 pb 3 (f1 pb 3 + 1)
  let f3 := putV f2 pb 5 (f2 pb 5 + (b - a))
  let f4 := putV f3 pc 4 (f3 pc 4 + 1)
  if pf < pb then
    let f5 := putV f4 pf 6 (f4 pf 6 + 1)
    putV f5 pb 6 (f5 pb 6 - 1)
  else f4
/-- what each window has behind so many trips -/
def rowsV (W H : Int) (N : Nat) (z : Nat → Nat → Int) : Nat → Nat → Nat → Int
  | 0 => fun _ _ => 0
  | k + 1 => stpV W H N (z k 1) (z k 5) (z k 6) (rowsV W H N z k)
/-- what a span has of so many trips: came, in, out, waited, behind -/
def ofC (p q : Int) (z : Nat → Nat → Int) : Nat → Int
  | 0 => 0
  | k + 1 => ofC p q z k + if (p ≤ z k 1 ∧ z k 1 < q) then 1 else 0
def ofI (p q : Int) (z : Nat → Nat → Int) : Nat → Int
  | 0 => 0
  | k + 1 => ofI p q z k + if 0 ≤ z k 5 ∧ (p ≤ z k 5 ∧ z k 5 < q) then 1 else 0
def ofO (p q : Int) (z : Nat → Nat → Int) : Nat → Int
  | 0 => 0
  | k + 1 => ofO p q z k + if 0 ≤ z k 6 ∧ (p ≤ z k 6 ∧ z k 6 < q) then 1 else 0
def ofW (p q : Int) (z : Nat → Nat → Int) : Nat → Int
  | 0 => 0
  | k + 1 => ofW p q z k + if 0 ≤ z k 5 ∧ (p ≤ z k 5 ∧ z k 5 < q) then z k 5 - z k 1 else 0
def ofB (p q : Int) (z : Nat → Nat → Int) : Nat → Int
  | 0 => 0
  | k + 1 => ofB p q z k + if z k 1 < q ∧ (z k 5 < 0 ∨ q ≤ z k 5) then 1 else 0
theorem stp_col2 {W H : Int} {N n : Nat} {a b c : Int} {f : Nat → Nat → Int} : colV (stpV W H N a b c f) 2 n = colV f 2 n + if winV W H N a < n then 1 else 0 := by
  unfold stpV
  simp only
  split
  all_goals (simp only [col_other (show (6 : Nat) ≠ 2 by decide), col_other (show (4 : Nat) ≠ 2 by decide), col_other (show (5 : Nat) ≠ 2 by decide), col_other (show (3 : Nat) ≠ 2 by decide), col_put]; congr 1; split <;> omega)
theorem stp_col3 {W H : Int} {N n : Nat} {a b c : Int} {f : Nat → Nat → Int} : colV (stpV W H N a b c f) 3 n = colV f 3 n + if winV W H N b < n then 1 else 0 := by
  unfold stpV
  simp only
  split
  all_goals (simp only [col_other (show (6 : Nat) ≠ 3 by decide), col_other (show (4 : Nat) ≠ 3 by decide), col_other (show (5 : Nat) ≠ 3 by decide), col_put, col_other (show (2 : Nat) ≠ 3 by decide)]; congr 1; split <;> omega)
theorem stp_col4 {W H : Int} {N n : Nat} {a b c : Int} {f : Nat → Nat → Int} : colV (stpV W H N a b c f) 4 n = colV f 4 n + if winV W H N c < n then 1 else 0 := by
  unfold stpV
  simp only
  split
  all_goals (simp only [col_other (show (6 : Nat) ≠ 4 by decide), col_put, col_other (show (5 : Nat) ≠ 4 by decide), col_other (show (3 : Nat) ≠ 4 by decide), col_other (show (2 : Nat) ≠ 4 by decide)]; congr 1; split <;> omega)
theorem stp_col5 {W H : Int} {N n : Nat} {a b c : Int} {f : Nat → Nat → Int} : colV (stpV W H N a b c f) 5 n = colV f 5 n + if winV W H N b < n then b - a else 0 := by
  unfold stpV
  simp only
  split
  all_goals (simp only [col_other (show (6 : Nat) ≠ 5 by decide), col_other (show (4 : Nat) ≠ 5 by decide), col_put, col_other (show (3 : Nat) ≠ 5 by decide), col_other (show (2 : Nat) ≠ 5 by decide)]; congr 1; split <;> omega)
theorem stp_col6 {W H : Int} {N n : Nat} {a b c : Int} {f : Nat → Nat → Int} : colV (stpV W H N a b c f) 6 n = colV f 6 n + if winV W H N (max 0 a) < winV W H N b then ((if winV W H N (max 0 a) < n then 1 else 0) - (if winV W H N b < n then 1 else 0) : Int) else 0 := by
  unfold stpV
  simp only
  split
  · rename_i h
    rw [col_put, col_put]
    simp only [col_other (show (4 : Nat) ≠ 6 by decide), col_other (show (5 : Nat) ≠ 6 by decide), col_other (show (3 : Nat) ≠ 6 by decide), col_other (show (2 : Nat) ≠ 6 by decide)]
    split <;> split <;> omega
  · simp only [col_other (show (4 : Nat) ≠ 6 by decide), col_other (show (5 : Nat) ≠ 6 by decide), col_other (show (3 : Nat) ≠ 6 by decide), col_other (show (2 : Nat) ≠ 6 by decide), Int.add_zero]
section
variable {W H : Int} {N : Nat} {z : Nat → Nat → Int} (hW : 1 ≤ W) (hN : H ≤ N * W)
include hW hN
theorem all_C : ∀ k, colV (rowsV W H N z k) 2 N = ofC 0 H z k
  | 0 => by
    have : ∀ n, colV (rowsV W H N z 0) 2 n = 0 := fun n => by induction n with | zero => rfl | succ n ih => show colV _ _ n + 0 = 0; rw [ih]; rfl
    exact this N
  | k + 1 => by
    show colV (stpV _ _ _ _ _ _ _) 2 N = ofC 0 H z k + _
    rw [stp_col2, all_C k]
    congr 1
    have := win_iff (W := W) (H := H) (N := N) (t := z k 1) hW hN
    by_cases h : 0 ≤ z k 1 ∧ z k 1 < H
    · rw [if_pos (this.2 h), if_pos h]
    · rw [if_neg (fun c => h (this.1 c)), if_neg h]
theorem all_I : ∀ k, colV (rowsV W H N z k) 3 N = ofI 0 H z k
  | 0 => by
    have : ∀ n, colV (rowsV W H N z 0) 3 n = 0 := fun n => by induction n with | zero => rfl | succ n ih => show colV _ _ n + 0 = 0; rw [ih]; rfl
    exact this N
  | k + 1 => by
    show colV (stpV _ _ _ _ _ _ _) 3 N = ofI 0 H z k + _
    rw [stp_col3, all_I k]
    congr 1
    have := win_iff (W := W) (H := H) (N := N) (t := z k 5) hW hN
    by_cases h : 0 ≤ z k 5 ∧ z k 5 < H
    · rw [if_pos (this.2 h), if_pos ⟨h.1, h⟩]
    · rw [if_neg (fun c => h (this.1 c)), if_neg (fun c => h c.2)]
theorem all_O : ∀ k, colV (rowsV W H N z k) 4 N = ofO 0 H z k
  | 0 => by
    have : ∀ n, colV (rowsV W H N z 0) 4 n = 0 := fun n => by induction n with | zero => rfl | succ n ih => show colV _ _ n + 0 = 0; rw [ih]; rfl
    exact this N
  | k + 1 => by
    show colV (stpV _ _ _ _ _ _ _) 4 N = ofO 0 H z k + _
    rw [stp_col4, all_O k]
    congr 1
    have := win_iff (W := W) (H := H) (N := N) (t := z k 6) hW hN
    by_cases h : 0 ≤ z k 6 ∧ z k 6 < H
    · rw [if_pos (this.2 h), if_pos ⟨h.1, h⟩]
    · rw [if_neg (fun c => h (this.1 c)), if_neg (fun c => h c.2)]
theorem all_W : ∀ k, colV (rowsV W H N z k) 5 N = ofW 0 H z k
  | 0 => by
    have : ∀ n, colV (rowsV W H N z 0) 5 n = 0 := fun n => by induction n with | zero => rfl | succ n ih => show colV _ _ n + 0 = 0; rw [ih]; rfl
    exact this N
  | k + 1 => by
    show colV (stpV _ _ _ _ _ _ _) 5 N = ofW 0 H z k + _
    rw [stp_col5, all_W k]
    congr 1
    have := win_iff (W := W) (H := H) (N := N) (t := z k 5) hW hN
    by_cases h : 0 ≤ z k 5 ∧ z k 5 < H
    · rw [if_pos (this.2 h), if_pos ⟨h.1, h⟩]
    · rw [if_neg (fun c => h (this.1 c)), if_neg (fun c => h c.2)]
theorem all_B (hH : 1 ≤ H) : ∀ k, colV (rowsV W H N z k) 6 N = ofB 0 H z k
  | 0 => by
    have : ∀ n, colV (rowsV W H N z 0) 6 n = 0 := fun n => by induction n with | zero => rfl | succ n ih => show colV _ _ n + 0 = 0; rw [ih]; rfl
    exact this N
  | k + 1 => by
    show colV (stpV _ _ _ _ _ _ _) 6 N = ofB 0 H z k + _
    rw [stp_col6, all_B hH k]
    congr 1
    have i1 := win_iff (W := W) (H := H) (N := N) (t := max 0 (z k 1)) hW hN
    have i2 := win_iff (W := W) (H := H) (N := N) (t := z k 5) hW hN
    have l2 := win_le (W := W) (H := H) (N := N) (t := z k 5) hW hN
    have l1 := win_le (W := W) (H := H) (N := N) (t := max 0 (z k 1)) hW hN
    generalize winV W H N (max 0 (z k 1)) = pf at *
    generalize winV W H N (z k 5) = pb at *
    by_cases hf : pf < pb
    · rw [if_pos hf, if_pos (by omega)]
      have := i1.1 (by omega)
      by_cases hb : pb < N
      · rw [if_pos hb, if_neg]
        · omega
        · have := i2.1 hb; omega
      · rw [if_neg hb, if_pos]
        · omega
        · have : ¬ (0 ≤ z k 5 ∧ z k 5 < H) := fun c => hb (i2.2 c)
          omega
    · rw [if_neg hf, if_neg]
      rintro ⟨c1, c2⟩
      have : ¬ pb < N := fun c => by have := i2.1 c; omega
      have : pf < N := i1.2 (by omega)
      omega
end
theorem stp_at2 {W H : Int} {N i : Nat} {a b c : Int} {f : Nat → Nat → Int} : stpV W H N a b c f i 2 = f i 2 + if winV W H N a = i then 1 else 0 := by
  unfold stpV
  simp only
  split
  all_goals (simp only [putV]; by_cases h : i = winV W H N a <;> simp [h, eq_comm])
theorem stp_at3 {W H : Int} {N i : Nat} {a b c : Int} {f : Nat → Nat → Int} : stpV W H N a b c f i 3 = f i 3 + if winV W H N b = i then 1 else 0 := by
  unfold stpV
  simp only
  split
  all_goals (simp only [putV]; by_cases h : i = winV W H N b <;> simp [h, eq_comm])
theorem stp_at4 {W H : Int} {N i : Nat} {a b c : Int} {f : Nat → Nat → Int} : stpV W H N a b c f i 4 = f i 4 + if winV W H N c = i then 1 else 0 := by
  unfold stpV
  simp only
  split
  all_goals (simp only [putV]; by_cases h : i = winV W H N c <;> simp [h, eq_comm])
theorem stp_at5 {W H : Int} {N i : Nat} {a b c : Int} {f : Nat → Nat → Int} : stpV W H N a b c f i 5 = f i 5 + if winV W H N b = i then b - a else 0 := by
  unfold stpV
  simp only
  split
  all_goals (simp only [putV]; by_cases h : i = winV W H N b <;> simp [h, eq_comm])
theorem mul_nn {W : Int} (i : Nat) (hW : 1 ≤ W) : (0 : Int) ≤ i * W := Int.mul_nonneg (by omega) (by omega)
/-- where window i ends -/
def toV (W H : Int) (i : Nat) : Int := i * W + min W (H - i * W)
theorem to_pos {W H : Int} {i : Nat} (hW : 1 ≤ W) (hF : (i : Int) * W < H) : 0 < toV W H i ∧ toV W H i ≤ H ∧ (i : Int) * W < toV W H i := by
  have := mul_nn i hW
  unfold toV
  omega
theorem win_at {W H : Int} {N i : Nat} {t : Int} (hW : 1 ≤ W) (hN : H ≤ N * W) (hi : i < N) : winV W H N t = i ↔ (i * W ≤ t ∧ t < toV W H i) := by
  have hp := mul_nn i hW
  by_cases h : 0 ≤ t ∧ t < H
  · obtain ⟨_, e⟩ := win_lt (t := t) hW hN h
    have l1 := Int.ediv_mul_le t (show W ≠ 0 by omega)
    have l2 := Int.lt_ediv_add_one_mul_self t (show 0 < W by omega)
    constructor
    · intro c
      rw [c] at e
      rw [← e] at l1 l2
      rw [Int.add_mul] at l2
      unfold toV
      omega
    · rintro ⟨c1, c2⟩
      have a1 : (i : Int) ≤ t / W := Int.le_ediv_of_mul_le (by omega) c1
      have a2 : t / W < (i : Int) + 1 := Int.ediv_lt_of_lt_mul (by omega) (by rw [Int.add_mul]; unfold toV at c2; omega)
      omega
  · rw [win_out h]
    constructor
    · intro c; omega
    · rintro ⟨c1, c2⟩
      unfold toV at c2; omega
theorem win_to {W H : Int} {N i : Nat} {t : Int} (hW : 1 ≤ W) (hN : H ≤ N * W) (hi : i < N) : winV W H N t < i + 1 ↔ (0 ≤ t ∧ t < toV W H i) := by
  have hp := mul_nn i hW
  by_cases h : 0 ≤ t ∧ t < H
  · obtain ⟨_, e⟩ := win_lt (t := t) hW hN h
    have l1 := Int.ediv_mul_le t (show W ≠ 0 by omega)
    have l2 := Int.lt_ediv_add_one_mul_self t (show 0 < W by omega)
    constructor
    · intro c
      refine ⟨h.1, ?_⟩
      have : (t / W + 1) * W ≤ ((i : Int) + 1) * W := Int.mul_le_mul_of_nonneg_right (by omega) (by omega)
      rw [Int.add_mul (i : Int)] at this
      unfold toV
      omega
    · rintro ⟨c1, c2⟩
      have a2 : t / W < (i : Int) + 1 := Int.ediv_lt_of_lt_mul (by omega) (by rw [Int.add_mul]; unfold toV at c2; omega)
      omega
  · rw [win_out h]
    constructor
    · intro c; omega
    · rintro ⟨c1, c2⟩
      unfold toV at c2; omega
section
variable {W H : Int} {N i : Nat} (hW : 1 ≤ W) (hN : H ≤ N * W) (hi : i < N)
include hW hN hi
theorem row_C {z : Nat → Nat → Int} : ∀ k, rowsV W H N z k i 2 = ofC (i * W) (toV W H i) z k
  | 0 => rfl
  | k + 1 => by
    show stpV _ _ _ _ _ _ _ i 2 = ofC _ _ z k + _
    rw [stp_at2, row_C k]
    congr 1
    have := win_at (t := z k 1) hW hN hi
    by_cases h : (i : Int) * W ≤ z k 1 ∧ z k 1 < toV W H i
    · rw [if_pos (this.2 h), if_pos h]
    · rw [if_neg (fun c => h (this.1 c)), if_neg h]
theorem row_I {z : Nat → Nat → Int} : ∀ k, rowsV W H N z k i 3 = ofI (i * W) (toV W H i) z k
  | 0 => rfl
  | k + 1 => by
    have hp := mul_nn i hW
    show stpV _ _ _ _ _ _ _ i 3 = ofI _ _ z k + _
    rw [stp_at3, row_I k]
    congr 1
    have := win_at (t := z k 5) hW hN hi
    by_cases h : (i : Int) * W ≤ z k 5 ∧ z k 5 < toV W H i
    · rw [if_pos (this.2 h), if_pos ⟨by omega, h⟩]
    · rw [if_neg (fun c => h (this.1 c)), if_neg (fun c => h c.2)]
theorem row_O {z : Nat → Nat → Int} : ∀ k, rowsV W H N z k i 4 = ofO (i * W) (toV W H i) z k
  | 0 => rfl
  | k + 1 => by
    have hp := mul_nn i hW
    show stpV _ _ _ _ _ _ _ i 4 = ofO _ _ z k + _
    rw [stp_at4, row_O k]
    congr 1
    have := win_at (t := z k 6) hW hN hi
    by_cases h : (i : Int) * W ≤ z k 6 ∧ z k 6 < toV W H i
    · rw [if_pos (this.2 h), if_pos ⟨by omega, h⟩]
    · rw [if_neg (fun c => h (this.1 c)), if_neg (fun c => h c.2)]
theorem row_W {z : Nat → Nat → Int} : ∀ k, rowsV W H N z k i 5 = ofW (i * W) (toV W H i) z k
  | 0 => rfl
  | k + 1 => by
    have hp := mul_nn i hW
    show stpV _ _ _ _ _ _ _ i 5 = ofW _ _ z k + _
    rw [stp_at5, row_W k]
    congr 1
    have := win_at (t := z k 5) hW hN hi
    by_cases h : (i : Int) * W ≤ z k 5 ∧ z k 5 < toV W H i
    · rw [if_pos (this.2 h), if_pos ⟨by omega, h⟩]
    · rw [if_neg (fun c => h (this.1 c)), if_neg (fun c => h c.2)]
theorem row_B (hF : (i : Int) * W < H) {z : Nat → Nat → Int} : ∀ k, colV (rowsV W H N z k) 6 (i + 1) = ofB (i * W) (toV W H i) z k
  | 0 => by
    have : ∀ n, colV (rowsV W H N z 0) 6 n = 0 := fun n => by induction n with | zero => rfl | succ n ih => show colV _ _ n + 0 = 0; rw [ih]; rfl
    exact this (i + 1)
  | k + 1 => by
    show colV (stpV _ _ _ _ _ _ _) 6 (i + 1) = ofB _ _ z k + _
    rw [stp_col6, row_B hF k]
    congr 1
    have hp := to_pos hW hF
    have i1 := win_to (t := max 0 (z k 1)) hW hN hi
    have i2 := win_to (t := z k 5) hW hN hi
    generalize winV W H N (max 0 (z k 1)) = pf at *
    generalize winV W H N (z k 5) = pb at *
    generalize toV W H i = T at *
    by_cases h1 : pf < i + 1 <;> by_cases h2 : pb < i + 1
    · have := i1.1 h1; have := i2.1 h2
      rw [if_pos h1, if_pos h2]; split <;> split <;> omega
    · have := i1.1 h1; have c : ¬ (0 ≤ z k 5 ∧ z k 5 < T) := fun c => h2 (i2.2 c)
      rw [if_pos h1, if_neg h2, if_pos (by omega), if_pos (by omega)]; omega
    · have c : ¬ (0 ≤ max 0 (z k 1) ∧ max 0 (z k 1) < T) := fun c => h1 (i1.2 c)
      rw [if_neg (by omega), if_neg (by omega)]
    · have c : ¬ (0 ≤ max 0 (z k 1) ∧ max 0 (z k 1) < T) := fun c => h1 (i1.2 c)
      rw [if_neg h1, if_neg h2]; split <;> split <;> omega
end
end Go.Proofs.Ytffcmfpadaebdab
