/- HistSums: mathematics; Wider as a call; rows compared. -/
import Derived.Test.YtnjdeikikdieoaaHistD
import Derived.Test.YtnjdeikikdieoaaHistB
namespace Go.Proofs.Ytnjdeikikdieoaa
open Go.RowKit
set_option linter.unusedSimpArgs false
set_option linter.unusedVariables false
theorem wrap_wrap (a b : Int) : IntKind.i64.wrap (IntKind.i64.wrap a + b) = IntKind.i64.wrap (a + b) := by
  simp only [IntKind.wrap_i64]; omega
theorem totL_sum (l : List Int) : totL l = IntKind.i64.wrap l.sum := by
  have h : ∀ (l : List Int) (s : Int), l.foldl (fun s x => IntKind.i64.wrap (s + x)) (IntKind.i64.wrap s) = IntKind.i64.wrap (s + l.sum) := by
    intro l
    induction l with
    | nil => intro s; simp
    | cons x l ih => intro s; rw [List.foldl_cons, wrap_wrap, ih, List.sum_cons, Int.add_assoc]
  have := h l 0
  rw [Int.zero_add] at this
  rw [← this]
  unfold totL
  rw [show IntKind.i64.wrap 0 = 0 from by decide]
/-- how many parts so many numbers make -/
def nc (K : Nat) : Nat → Nat
  | 0 => 0
  | i + 1 => i / K + 1
/-- the parts' sums behind the first so many numbers -/
def prt (l : List Int) (K i j : Nat) : Int := totL (((l.take i).drop (j * K)).take K)
theorem nc_zero {K i : Nat} (hK : 1 ≤ K) (h : i % K = 0) : nc K i = i / K := by
  cases i with
  | zero => simp [nc]
  | succ i =>
    obtain ⟨q, hq⟩ := Nat.dvd_of_mod_eq_zero h
    have e : (i + 1) / K = q := by rw [hq]; exact Nat.mul_div_cancel_left _ (by omega)
    rw [e]
    show i / K + 1 = q
    cases q with
    | zero => omega
    | succ q =>
      have : i / K = q := by
        apply Nat.div_eq_of_lt_le
        · rw [Nat.mul_succ] at hq; rw [Nat.mul_comm]; omega
        · rw [Nat.mul_comm, ← hq]; omega
      omega
theorem nc_other {K i : Nat} (hK : 1 ≤ K) (h : i % K ≠ 0) : nc K i = i / K + 1 := by
  cases i with
  | zero => simp at h
  | succ i =>
    show i / K + 1 = (i + 1) / K + 1
    have h1 := Nat.div_add_mod (i + 1) K
    have h2 := Nat.mod_lt (i + 1) (show K > 0 by omega)
    have : i / K = (i + 1) / K := by
      apply Nat.div_eq_of_lt_le
      · rw [Nat.mul_comm]; omega
      · rw [Nat.add_mul, Nat.mul_comm]; omega
    rw [this]
theorem nc_le {K i : Nat} (hK : 1 ≤ K) (h : i ≤ 100) : nc K i ≤ 1000 := by
  cases i with
  | zero => simp [nc]
  | succ i => show i / K + 1 ≤ 1000; have := Nat.div_le_self i K; omega
theorem prt_last {l : List Int} {K i : Nat} (hK : 1 ≤ K) (hi : i < l.length) : prt l K (i + 1) (i / K) = IntKind.i64.wrap (prt l K i (i / K) + zat l i) := by
  have h1 := Nat.div_add_mod i K
  have h2 := Nat.mod_lt i (show K > 0 by omega)
  rw [Nat.mul_comm] at h1
  have hl : (l.take i).length = i := by rw [List.length_take]; omega
  have hd : ((l.take i).drop (i / K * K)).length = i - i / K * K := by rw [List.length_drop, hl]
  have e1 : ((l.take i).drop (i / K * K)).take K = (l.take i).drop (i / K * K) := List.take_of_length_le (by rw [hd]; omega)
  have e2 : ((l.take i).drop (i / K * K) ++ [zat l i]).take K = (l.take i).drop (i / K * K) ++ [zat l i] := List.take_of_length_le (by rw [List.length_append, hd]; simp; omega)
  unfold prt
  rw [take_at hi, List.drop_append_of_le_length (by omega), e2, e1, totL_snoc]
theorem prt_new {l : List Int} {K i : Nat} (hK : 1 ≤ K) (hi : i ≤ l.length) (h : i % K = 0) : prt l K i (i / K) = 0 := by
  have h1 := Nat.div_add_mod i K
  rw [Nat.mul_comm] at h1
  unfold prt
  rw [List.drop_eq_nil_of_le (by rw [List.length_take]; omega)]; simp [totL]
theorem prt_old {l : List Int} {K i j : Nat} (hK : 1 ≤ K) (hi : i < l.length) (hj : j < i / K) : prt l K (i + 1) j = prt l K i j := by
  have h1 := Nat.div_add_mod i K
  rw [Nat.mul_comm] at h1
  have h2 : (j + 1) * K ≤ (i / K) * K := Nat.mul_le_mul_right K hj
  rw [Nat.add_mul] at h2
  have hl : (l.take i).length = i := by rw [List.length_take]; omega
  unfold prt
  rw [take_at hi, List.drop_append_of_le_length (by omega), List.take_append_of_le_length (by simp [hl]; omega)]
theorem prt_set {l : List Int} {K i : Nat} (hK : 1 ≤ K) (hi : i < l.length) (u : Int) (hu : u = IntKind.i64.wrap (prt l K i (i / K) + zat l i)) : (rowL (prt l K i) (i / K + 1)).set (i / K) u = rowL (prt l K (i + 1)) (nc K (i + 1)) := by
  rw [rowL_set]
  refine rowL_congr fun j hj => ?_
  show (if j = i / K then u else prt l K i j) = prt l K (i + 1) j
  split
  · rename_i h; rw [h, prt_last hK hi, hu]
  · have : j < i / K + 1 := hj
    rw [prt_old hK hi (by omega)]
theorem chF_row {K : Nat} (hK : 1 ≤ K) : ∀ (f : Nat) (l : List Int), l.length < f → chF K f l = (List.range (nc K l.length)).map fun j => (l.drop (j * K)).take K := by
  intro f
  induction f with
  | zero => intro l h; omega
  | succ f ih =>
    intro l h
    by_cases h0 : l = []
    · subst h0; simp [chF, nc]
    · have hp : 0 < l.length := List.length_pos_iff.2 h0
      rw [chF_step h0]
      have hd : (l.drop K).length = l.length - K := List.length_drop
      have hn : nc K l.length = nc K (l.length - K) + 1 := by
        obtain ⟨m, hm⟩ : ∃ m, l.length = m + 1 := ⟨l.length - 1, by omega⟩
        rw [hm]
        by_cases hc : m + 1 ≤ K
        · rw [show m + 1 - K = 0 by omega]; show m / K + 1 = 0 + 1; rw [Nat.div_eq_of_lt (by omega)]
        · obtain ⟨r, hr⟩ : ∃ r, m = r + K := ⟨m - K, by omega⟩
          rw [hr, show r + K + 1 - K = r + 1 by omega]
          show (r + K) / K + 1 = (r / K + 1) + 1
          rw [Nat.add_div_right _ (by omega)]
      rw [ih (l.drop K) (by omega), hd, hn, List.range_succ_eq_map, List.map_cons, List.map_map]
      congr 1
      · simp
      · apply List.map_congr_left
        intro j _
        show (List.drop (j * K) (l.drop K)).take K = (l.drop ((j + 1) * K)).take K
        rw [List.drop_drop, Nat.add_mul, Nat.one_mul, Nat.add_comm]
theorem wide_row {K : Nat} (hK : 1 ≤ K) {l : List Int} (h : l.length ≤ 100) : (chF K 101 l).map totL = rowL (prt l K l.length) (nc K l.length) := by
  rw [chF_row hK 101 l (by omega), List.map_map]
  unfold rowL
  apply List.map_congr_left
  intro j _
  show totL _ = prt l K l.length j
  unfold prt
  rw [List.take_length]
theorem chF_flat {K : Nat} (hK : 1 ≤ K) : ∀ (f : Nat) (l : List Int), l.length < f → ((chF K f l).map List.sum).sum = l.sum := by
  intro f
  induction f with
  | zero => intro l h; omega
  | succ f ih =>
    intro l h
    by_cases h0 : l = []
    · subst h0; simp [chF]
    · have hp : 0 < l.length := List.length_pos_iff.2 h0
      rw [chF_step h0, List.map_cons, List.sum_cons, ih (l.drop K) (by rw [List.length_drop]; omega), ← List.sum_append, List.take_append_drop]
theorem tot_wide {K : Nat} (hK : 1 ≤ K) {l : List Int} (h : l.length ≤ 100) : totL ((chF K 101 l).map totL) = totL l := by
  rw [totL_sum, totL_sum, ← chF_flat hK 101 l (by omega)]
  have : ∀ (L : List (List Int)), IntKind.i64.wrap (L.map totL).sum = IntKind.i64.wrap (L.map List.sum).sum := by
    intro L
    induction L with
    | nil => rfl
    | cons x L ih =>
      rw [List.map_cons, List.map_cons, List.sum_cons, List.sum_cons, totL_sum x, wrap_wrap]
      simp only [IntKind.wrap_i64] at ih ⊢
      omega
  exact this _
theorem prt_in (l : List Int) (K i : Nat) : ∀ x n, x ∈ rowL (prt l K i) n → -9223372036854775808 ≤ x ∧ x ≤ 9223372036854775807 := by
  intro x n hx
  unfold rowL at hx
  obtain ⟨j, _, rfl⟩ := List.mem_map.1 hx
  exact totL_in _
theorem wider_any (v : Value) (l : List Int) (K : Nat) (w : World) (hv : IsI w v l) (hl : l.length ≤ 100) (hK : 1 ≤ K) (hK2 : K ≤ 9223372036854775807) :
    Calls Try.prog 21 #[v, .int .i64 K] w (WidR K l w) := by
  obtain ⟨A, c, rfl, hr, h1, h2, _⟩ := hv
  exact (callsIn_wide (n := 0 + 3)).1 (wider_in 0 A c K l w hl hK hK2 hr h1 h2)
set_option maxHeartbeats 1000000 in
theorem wider_bad (A : Option Addr) (n c : Nat) (k : Int) (w : World) (hk : k < 1) :
    Calls Try.prog 21 #[.slice A n c, .int .i64 k] w fun e w' => e = .returned (.tuple #[.slice none 0 0, .int .i64 22]) ∧ Below w.heap.size w w' := by
  go_enter Try.func21, Try.ntmps21
  go_wp2_with fail
  go_ret2
  exact ⟨rfl, Below.refl _ _⟩
theorem ints_same (va vb : Value) (l : List Int) (w : World) (ha : IsI w va l) (hb : IsI w vb l) (hl : l.length ≤ 1000) :
    Calls Try.prog 22 #[va, vb] w fun e w' => e = .returned (.bool true) ∧ Below w.heap.size w w' := by
  obtain ⟨A, c, rfl, hr, _⟩ := ha
  obtain ⟨B, d, rfl, hs, _⟩ := hb
  refine (equal_int A B c d l w hr hs (by omega)).mono ?_
  rintro e w' ⟨rfl, k, rfl⟩
  exact ⟨rfl, below_drewN (Below.refl _ _) k⟩
theorem htot_b (v : Value) (l : List Int) (w : World) (hv : IsI w v l) (hl : l.length ≤ 100000) :
    Calls Try.prog 24 #[v] w fun e w' => e = .returned (.int .i64 (totL l)) ∧ Below w.heap.size w w' :=
  (htot_any v l w hv hl).mono fun e w' h => ⟨h.1, h.2 ▸ Below.refl _ _⟩
end Go.Proofs.Ytnjdeikikdieoaa
