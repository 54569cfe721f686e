/- Contract of hist.Of: how many numbers are in each bin; of hist.Total. -/
import Derived.Test.YtnjdeikikdieoaaRows
import Derived.Test.YtnjdeikikdieoaaRowKit
import Derived.Test.YtnjdeikikdieoaaSlicesEq
import Derived.Test.YtnjdeikikdieoaaSlicesEqM
import Derived.Test.YtnjdeikikdieoaaRowL
import Derived.Test.YtnjdeikikdieoaaPickMath
import Derived.Test.YtnjdeikikdieoaaHistA
import Derived.WalkKit
import Derived.IntWalk
import Derived.Lib.Hide
import Derived.WalkSpells
import Derived.WalkLawsBesides
import Derived.Laws.CopyOwn
import Derived.Laws.MakeOwn
import Derived.Laws.OwnMore
import Derived.Deep.QuietTactic
import Derived.BigQuiet
namespace Go.Proofs.Ytnjdeikikdieoaa
open Go.RowKit
set_option linter.unusedSimpArgs false
set_option linter.unusedVariables false
theorem infoI : (Try.prog.info? 3).map (fun i => (i.zero, i.size, i.bytes)) = some (some (.int .i64 0), 1, 8) := by kernel_rfl
/-- the bin of a number, as a place -/
def bNat (n : Nat) (d x : Int) : Nat := (binV n d x).toNat
/-- how many of the first k numbers are in each bin (those below 0 in none) -/
def cnt (n : Nat) (d : Int) (zs : List Int) : Nat → Nat → Int
  | 0, _ => 0
  | k + 1, i => if 0 ≤ zat zs k ∧ i = bNat n d (zat zs k) then cnt n d zs k i + 1 else cnt n d zs k i
theorem cnt_succ (n : Nat) (d : Int) (zs : List Int) (k i : Nat) : cnt n d zs (k + 1) i = if 0 ≤ zat zs k ∧ i = bNat n d (zat zs k) then cnt n d zs k i + 1 else cnt n d zs k i := rfl
theorem cnt_bd (n : Nat) (d : Int) (zs : List Int) : ∀ k i, 0 ≤ cnt n d zs k i ∧ cnt n d zs k i ≤ k
  | 0, i => by show (0 : Int) ≤ 0 ∧ (0 : Int) ≤ 0; omega
  | k + 1, i => by
    have := cnt_bd n d zs k i
    rw [cnt_succ]
    split <;> omega
theorem bNat_lt {n : Nat} {d x : Int} (h : HR n d) (hx : 0 ≤ x) : bNat n d x < n ∧ binV n d x = bNat n d x := by
  obtain ⟨e, _⟩ := bin_ok h hx
  have h1 := h.1
  have h2 : 0 ≤ x / d := Int.ediv_nonneg hx (by have := h.2.2.1; omega)
  unfold bNat
  rw [e]
  omega
theorem zeros_row (n : Nat) : (madeCells (Value.cells (.int .i64 0)) (n * 1)).toList = (rowL (fun _ => 0) n).map (Value.int .i64) := by
  rw [Nat.mul_one]
  show (madeCells #[Value.int .i64 0] n).toList = _
  rw [toList_madeCells_one]
  unfold rowL
  rw [List.map_map]
  apply List.ext_getElem
  · simp
  · intro i h1 h2; simp
theorem cnt_put {w : World} {base : Nat} {e : TypeId} {g cap n k j : Nat} {d : Int} {zs : List Int} (h : w.ownsRow base e 1 (.slice (some ⟨g, 0, none⟩) n cap) n ((rowL (cnt n d zs k) n).map (Value.int .i64))) (hz : 0 ≤ zat zs k) (hj : j = bNat n d (zat zs k)) {u : Int} (hu : u = cnt n d zs k j + 1) :
    (w.setCell ⟨g, j, none⟩ (.int .i64 u)).ownsRow base e 1 (.slice (some ⟨g, 0, none⟩) n cap) n ((rowL (cnt n d zs (k + 1)) n).map (Value.int .i64)) := by
  have := (h.stored j (.int .i64 u)).1
  rw [← List.map_set, rowL_set] at this
  rw [rowL_congr (b := fun i => if i = j then u else cnt n d zs k i) (fun i hi => ?_)]
  · exact this
  · show (if 0 ≤ zat zs k ∧ i = bNat n d (zat zs k) then cnt n d zs k i + 1 else cnt n d zs k i) = _
    by_cases hij : i = j
    · rw [if_pos ⟨hz, by rw [hij, hj]⟩, if_pos hij, hu, hij]
    · rw [if_neg (fun hc => hij (by rw [hc.2, hj])), if_neg hij]
theorem cnt_skip {n k : Nat} {d : Int} {zs : List Int} (hz : zat zs k < 0) : rowL (cnt n d zs (k + 1)) n = rowL (cnt n d zs k) n :=
  rowL_congr fun i _ => if_neg (by omega)
theorem cnt_wf (n : Nat) (d : Int) (zs : List Int) (k : Nat) (hk : k ≤ 1000) : ∀ i, i < (rowL (cnt n d zs k) n).length → (Lit.int .i64 (zat (rowL (cnt n d zs k) n) i)).wf = true := by
  intro i hi
  rw [rowL_len] at hi
  rw [rowL_at _ hi]
  have := cnt_bd n d zs k i
  exact WalkArith.wf_i64 (by omega)
set_option maxHeartbeats 1000000 in
theorem hof_bad (b d : Int) (A : Option Addr) (m c : Nat) (w : World) (h : ¬ HR b d) :
    Calls Try.prog 38 #[.int .i64 b, .int .i64 d, .slice A m c] w fun e w' => e = .returned (.tuple #[.slice none 0 0, .int .i64 22]) ∧ w = w' := by
  have HC := Lib.hid (fun w => hright_any b d w)
  have hd : decide (1 ≤ b ∧ b ≤ 64 ∧ 1 ≤ d ∧ d ≤ 4096) = false := decide_eq_false h
  have D := Lib.hid hd
  clear h hd
  go_enter Try.func38, Try.ntmps38
  go_wp2_with (go_at_call 45; refine (HC.out _).mono ?_; rintro e w' ⟨rfl, rfl⟩; rw [D.out])
  go_ret2
  exact ⟨rfl, rfl⟩
/-- a row of counts that the call made -/
def CntR (n : Nat) (ys : List Int) (w : World) (e : Ending) (w' : World) : Prop := ∃ A c, e = .returned (.tuple #[.slice A n c, .int .i64 0]) ∧ RdI w' .i64 A ys ∧ Below w.heap.size w w'
set_option maxRecDepth 100000 in
set_option maxHeartbeats 2000000 in
theorem hof_ok (n : Nat) (d : Int) (A : Option Addr) (c : Nat) (zs : List Int) (w : World) (h : HR n d) (hr : RdI w .i64 A zs) (hl : zs.length ≤ 1000) (hn : NN zs) :
    Calls Try.prog 38 #[.int .i64 n, .int .i64 d, .slice A zs.length c] w (CntR n (rowL (cnt n d zs zs.length) n) w) := by
  obtain ⟨i0, hi, hz0, hz1, hz2⟩ := info_parts infoI
  have HC := Lib.hid (fun w => hright_any n d w)
  have hd : decide (1 ≤ (n : Int) ∧ (n : Int) ≤ 64 ∧ 1 ≤ d ∧ d ≤ 4096) = true := decide_eq_true h
  have D := Lib.hid hd
  have n1 := h.1
  have n2 := h.2.1
  have HB := Lib.hid (fun (x : Int) w (hx : x ≤ 9223372036854775807) => hbin_any n d x w hx)
  have HX := Lib.hid (fun (x : Int) (hx : 0 ≤ x) => And.intro (bNat_lt h hx) (bin_ok h hx).2)
  have HN := Lib.hid hn
  have HZ := Lib.hid (zeros_row n)
  have CB := Lib.hid (cnt_bd n d zs)
  have CW := Lib.hid (cnt_wf n d zs zs.length hl)
  have WF : Hid (∀ i, i < zs.length → zat zs i ≤ 9223372036854775807) := Lib.hid fun i hi => by obtain ⟨_, _, _, _, hw⟩ := hr i hi; exact (bounds_i64 hw).2
  have HR0 := Lib.hid hr
  clear h hd hn hr
  go_enter Try.func38, Try.ntmps38
  go_wp2_with (first
    | (go_at_call 45; refine (HC.out _).mono ?_; rintro e w' ⟨rfl, rfl⟩; rw [D.out])
    | (at_make; refine wpList_make_full _ rfl _ _ 47 rfl w.heap.size 3 i0 (.int .i64 0) 1 Try.underlying47 hi hz0 hz1 _ _ _ _ n rfl rfl (by omega) (by omega) (by rw [hz2]; omega) (by unfold maxLen; omega) (Nat.le_refl _) ?_; intro w0 hown0 hgrow0))
  rw [HZ.out] at hown0
  have hb0 : Below w.heap.size w w0 := (Below.refl _ _).grown hgrow0 (Nat.le_refl _) (fun k h => by cases h)
  have HO := Lib.hid hown0
  have HBl := Lib.hid hb0
  clear hgrow0 hown0 hb0
  go_wp2_with fail
  go_loopw [21] (fun i wr => ∃ k : Nat, k ≤ zs.length ∧ i = .int .i64 k ∧ wr.ownsRow w.heap.size 3 1 (.slice (some ⟨w.heap.size, 0, none⟩) n n) n ((rowL (cnt n d zs k) n).map (Value.int .i64)) ∧ Below w.heap.size w wr) (fun i _ => zs.length - (intOf i).toNat)
  case atStart => exact ⟨0, by omega, rfl, HO.out, HBl.out⟩
  case round =>
    obtain ⟨k, hk, rfl, hown, hb⟩ := hrel
    by_cases hkl : k < zs.length
    · obtain ⟨b, off, rfl, hlt, hc⟩ := rdI_row HR0.out (by omega)
      have c1 := (hb.cell (p := ⟨b, off + k, none⟩) hlt).trans (hc k hkl)
      have hx0 := HN.out k hkl
      have hx1 := WF.out k hkl
      obtain ⟨⟨y1, y2⟩, y3⟩ := HX.out _ hx0
      have hB := HB.out (zat zs k)
      rw [y2, y3] at hB
      have hB := Lib.hid hB
      have c2 := ownR_cell hown y1
      have f2 := hown.frozenAt (bNat n d (zat zs k))
      have b1 := CB.out k (bNat n d (zat zs k))
      have S := Lib.hid (fun u => cnt_put (u := u) hown hx0 rfl)
      obtain ⟨j, hj⟩ : ∃ j, bNat n d (zat zs k) = j := ⟨_, rfl⟩
      rw [hj] at y1 hB c2 f2 b1 S
      obtain ⟨y, hy⟩ : ∃ y, cnt n d zs k j = y := ⟨_, rfl⟩
      rw [hy] at c2 b1 S
      obtain ⟨x, hx⟩ : ∃ x, zat zs k = x := ⟨_, rfl⟩
      rw [hx] at c1 hx0 hx1 hB
      have HB3 := Lib.hid hb
      clear hc y2 y3 hj hy hx hown hb
      go_wp2_with (go_at_call 46; refine (hB.out _ hx1).mono ?_; rintro e w' ⟨rfl, rfl⟩)
      go_roundw
      case rel => exact ⟨k + 1, by omega, by go_num, S.out _ rfl, HB3.out.setCell (Nat.le_refl _) _⟩
      case measure => simp [intOf]; omega
    · obtain rfl : k = zs.length := by omega
      obtain ⟨B, cc, hv, hR⟩ := ownR_rd (ownR_len hown (rowL_len _ _)) CW.out
      go_wp2_with fail
      go_ret2
      refine ⟨_, _, rfl, ?_, hb⟩
      rw [rowL_len] at hv
      cases hv
      exact hR
set_option maxRecDepth 100000 in
set_option maxHeartbeats 2000000 in
theorem hof_neg (n : Nat) (d : Int) (b off c : Nat) (zs : List Int) (w : World) (h : HR n d) (hr : RdI w .i64 (some ⟨b, off, none⟩) zs) (hl : zs.length ≤ 1000) (m : Nat) (hm : m < zs.length) (hneg : zat zs m < 0) (hbef : ∀ j, j < m → 0 ≤ zat zs j) :
    Calls Try.prog 38 #[.int .i64 n, .int .i64 d, .slice (some ⟨b, off, none⟩) zs.length c] w fun e w' => e = .returned (.tuple #[.slice none 0 0, .int .i64 10]) ∧ Below w.heap.size w w' := by
  obtain ⟨i0, hi, hz0, hz1, hz2⟩ := info_parts infoI
  have HC := Lib.hid (fun w => hright_any n d w)
  have hd : decide (1 ≤ (n : Int) ∧ (n : Int) ≤ 64 ∧ 1 ≤ d ∧ d ≤ 4096) = true := decide_eq_true h
  have D := Lib.hid hd
  have n1 := h.1
  have n2 := h.2.1
  have HB := Lib.hid (fun (x : Int) w (hx : x ≤ 9223372036854775807) => hbin_any n d x w hx)
  have HX := Lib.hid (fun (x : Int) (hx : 0 ≤ x) => And.intro (bNat_lt h hx) (bin_ok h hx).2)
  have HY := Lib.hid (fun (x : Int) (hx : x < 0) => bin_neg h hx)
  have HN := Lib.hid hbef
  have HZ := Lib.hid (zeros_row n)
  have CB := Lib.hid (cnt_bd n d zs)
  have HG := Lib.hid hneg
  have WF : Hid (∀ i, i < zs.length → zat zs i ≤ 9223372036854775807) := Lib.hid fun i hi => by obtain ⟨_, _, _, _, hw⟩ := hr i hi; exact (bounds_i64 hw).2
  have HR0 := Lib.hid hr
  clear h hd hbef hneg hr
  go_enter Try.func38, Try.ntmps38
  go_wp2_with (first
    | (go_at_call 45; refine (HC.out _).mono ?_; rintro e w' ⟨rfl, rfl⟩; rw [D.out])
    | (at_make; refine wpList_make_full _ rfl _ _ 47 rfl w.heap.size 3 i0 (.int .i64 0) 1 Try.underlying47 hi hz0 hz1 _ _ _ _ n rfl rfl (by omega) (by omega) (by rw [hz2]; omega) (by unfold maxLen; omega) (Nat.le_refl _) ?_; intro w0 hown0 hgrow0))
  rw [HZ.out] at hown0
  have hb0 : Below w.heap.size w w0 := (Below.refl _ _).grown hgrow0 (Nat.le_refl _) (fun k h => by cases h)
  have HO := Lib.hid hown0
  have HBl := Lib.hid hb0
  clear hgrow0 hown0 hb0
  go_wp2_with fail
  go_loopw [21] (fun i wr => ∃ k : Nat, k ≤ m ∧ i = .int .i64 k ∧ wr.ownsRow w.heap.size 3 1 (.slice (some ⟨w.heap.size, 0, none⟩) n n) n ((rowL (cnt n d zs k) n).map (Value.int .i64)) ∧ Below w.heap.size w wr) (fun i _ => zs.length - (intOf i).toNat)
  case atStart => exact ⟨0, by omega, rfl, HO.out, HBl.out⟩
  case round =>
    obtain ⟨k, hk, rfl, hown, hb⟩ := hrel
    have hkl : k < zs.length := by omega
    obtain ⟨b', o', e', hlt, hc⟩ := rdI_row HR0.out (by omega)
    cases e'
    have c1 := (hb.cell (p := ⟨b, off + k, none⟩) hlt).trans (hc k hkl)
    have hx1 := WF.out k hkl
    by_cases hkm : k < m
    · have hx0 := HN.out k hkm
      obtain ⟨⟨y1, y2⟩, y3⟩ := HX.out _ hx0
      have hB := HB.out (zat zs k)
      rw [y2, y3] at hB
      have hB := Lib.hid hB
      have c2 := ownR_cell hown y1
      have f2 := hown.frozenAt (bNat n d (zat zs k))
      have b1 := CB.out k (bNat n d (zat zs k))
      have S := Lib.hid (fun u => cnt_put (u := u) hown hx0 rfl)
      obtain ⟨j, hj⟩ : ∃ j, bNat n d (zat zs k) = j := ⟨_, rfl⟩
      rw [hj] at y1 hB c2 f2 b1 S
      obtain ⟨y, hy⟩ : ∃ y, cnt n d zs k j = y := ⟨_, rfl⟩
      rw [hy] at c2 b1 S
      obtain ⟨x, hx⟩ : ∃ x, zat zs k = x := ⟨_, rfl⟩
      rw [hx] at c1 hx0 hx1 hB
      have HB3 := Lib.hid hb
      clear hc y2 y3 hj hy hx hown hb
      go_wp2_with (go_at_call 46; refine (hB.out _ hx1).mono ?_; rintro e w' ⟨rfl, rfl⟩)
      go_roundw
      case rel => exact ⟨k + 1, by omega, by go_num, S.out _ rfl, HB3.out.setCell (Nat.le_refl _) _⟩
      case measure => simp [intOf]; omega
    · obtain rfl : k = m := by omega
      obtain ⟨y2, y3⟩ := HY.out _ HG.out
      have hB := HB.out (zat zs k)
      rw [y2, y3] at hB
      have hB := Lib.hid hB
      have HB3 := Lib.hid hb
      clear hc y2 y3 hown hb
      go_wp2_with (go_at_call 46; refine (hB.out _ hx1).mono ?_; rintro e w' ⟨rfl, rfl⟩)
      go_ret2
      exact ⟨rfl, HB3.out⟩
set_option maxHeartbeats 1000000 in
theorem htotal_any (b off c : Nat) (zs : List Int) (w : World) (hr : RdI w .i64 (some ⟨b, off, none⟩) zs) (h0 : 0 < zs.length) (hl : zs.length ≤ 1000) (hn : NN zs) (hs : ps zs zs.length ≤ 1000000) :
    Calls Try.prog 24 #[.slice (some ⟨b, off, none⟩) zs.length c] w fun e w' => e = .returned (.int .i64 (ps zs zs.length)) ∧ w = w' := by
  obtain ⟨b', o', e, _, hc⟩ := rdI_row hr h0
  cases e
  have HC := Lib.hid hc
  have PS := Lib.hid (fun j (hj : j ≤ zs.length) => And.intro (ps_nonneg hn hj) (Int.le_trans (ps_mono hn hj (Nat.le_refl _)) hs))
  have HN := Lib.hid hn
  clear hr hc hn hs
  go_enter Try.func24, Try.ntmps24
  go_wp2_with fail
  go_loop [3, 8] (fun s i => ∃ k : Nat, k ≤ zs.length ∧ i = .int .i64 k ∧ s = .int .i64 (ps zs k)) (fun _ i => zs.length - (intOf i).toNat)
  case atStart => exact ⟨0, by omega, rfl, rfl⟩
  case round =>
    obtain ⟨k, hk, rfl, rfl⟩ := hrel
    by_cases h : k < zs.length
    · have c1 := HC.out k h
      have x0 := HN.out k h
      have p0 := PS.out k hk
      have p1 := PS.out (k + 1) h
      rw [ps_succ] at p1
      have E := Lib.hid (ps_succ zs k)
      obtain ⟨x, hx⟩ : ∃ x, zat zs k = x := ⟨_, rfl⟩
      obtain ⟨y, hy⟩ : ∃ y, ps zs k = y := ⟨_, rfl⟩
      rw [hx] at c1 x0 p1 E
      rw [hy] at p0 p1 E
      rw [hy]
      clear hx hy
      go_wp2_with fail
      go_round
      case rel => exact ⟨k + 1, by omega, by go_num, by rw [E.out]⟩
      case measure => simp [intOf]; omega
    · obtain rfl : k = zs.length := by omega
      go_wp2_with fail
      go_ret
      exact ⟨rfl, rfl⟩
/-- sums of a row told by a function -/
theorem ps_row (a : Nat → Int) (n : Nat) : ∀ k, k ≤ n → ps (rowL a n) k = ps (rowL a k) k
  | 0, _ => rfl
  | k + 1, h => by
    have e1 : ps (rowL a n) (k + 1) = ps (rowL a n) k + a k := by rw [ps_succ, rowL_at _ (by omega)]
    have e2 : ps (rowL a (k + 1)) (k + 1) = ps (rowL a (k + 1)) k + a k := by rw [ps_succ, rowL_at _ (by omega)]
    have h1 := ps_row a n k (by omega)
    have h2 := ps_row a (k + 1) k (by omega)
    omega
theorem ps_bump (a b : Nat → Int) (n j : Nat) (hj : b j = a j + 1) (ho : ∀ i, i ≠ j → b i = a i) : ∀ k, k ≤ n → ps (rowL b n) k = ps (rowL a n) k + (if j < k then 1 else 0)
  | 0, _ => by simp [ps_zero]
  | k + 1, h => by
    have ih := ps_bump a b n j hj ho k (by omega)
    rw [ps_succ, ps_succ, rowL_at _ (show k < n by omega), rowL_at _ (show k < n by omega), ih]
    by_cases e : k = j
    · subst e; rw [hj, if_neg (by omega), if_pos (by omega)]; omega
    · rw [ho k e]
      by_cases e2 : j < k
      · rw [if_pos e2, if_pos (by omega)]; omega
      · rw [if_neg e2, if_neg (by omega)]; omega
theorem ps_same {a b : Nat → Int} (n : Nat) (h : ∀ i, b i = a i) : rowL b n = rowL a n := rowL_congr fun i _ => h i
/-- all numbers are in some bin -/
theorem cnt_sum {n : Nat} {d : Int} {zs : List Int} (h : HR n d) (hn : NN zs) : ∀ k, k ≤ zs.length → ps (rowL (cnt n d zs k) n) n = k
  | 0, _ => by
    have : ∀ m, m ≤ n → ps (rowL (cnt n d zs 0) n) m = 0 := by
      intro m
      induction m with
      | zero => intro _; rfl
      | succ m ih => intro hm; rw [ps_succ, ih (by omega), rowL_at _ (by omega)]; rfl
    rw [this n (Nat.le_refl _)]; rfl
  | k + 1, hk => by
    have ih := cnt_sum h hn k (by omega)
    have hz := hn k (by omega)
    obtain ⟨y1, _⟩ := bNat_lt h hz
    rw [ps_bump (cnt n d zs k) (cnt n d zs (k + 1)) n (bNat n d (zat zs k)) (by rw [cnt_succ, if_pos ⟨hz, rfl⟩]) (fun i hi => by rw [cnt_succ, if_neg (fun hc => hi hc.2)]) n (Nat.le_refl _), ih, if_pos y1]
    omega
theorem nn3 : NN [5, 25, 99] := by
  intro i hi
  match i, hi with
  | 0, _ => decide
  | 1, _ => decide
  | 2, _ => decide
theorem rdh3 (w : World) : RdI (w.alloc (.cells #[.int .i64 5, .int .i64 25, .int .i64 99] 3)) .i64 (some ⟨w.heap.size, 0, none⟩) [5, 25, 99] := by
  apply rdI_mk
  intro i hi
  match i, hi with
  | 0, _ => exact ⟨World.cell?_alloc_mark w _ _ _ 0, rfl⟩
  | 1, _ => exact ⟨World.cell?_alloc_mark w _ _ _ 1, rfl⟩
  | 2, _ => exact ⟨World.cell?_alloc_mark w _ _ _ 2, rfl⟩
theorem rdh1 (w : World) : RdI (w.alloc (.cells #[.int .i64 1, .int .i64 0, .int .i64 2] 3)) .i64 (some ⟨w.heap.size, 0, none⟩) [1, 0, 2] := by
  apply rdI_mk
  intro i hi
  match i, hi with
  | 0, _ => exact ⟨World.cell?_alloc_mark w _ _ _ 0, rfl⟩
  | 1, _ => exact ⟨World.cell?_alloc_mark w _ _ _ 1, rfl⟩
  | 2, _ => exact ⟨World.cell?_alloc_mark w _ _ _ 2, rfl⟩
theorem cnt3 : rowL (cnt 3 10 [5, 25, 99] 3) 3 = [1, 0, 2] := by decide +kernel
set_option maxHeartbeats 1000000 in
theorem hialive (w : World) :
    Calls Try.prog 25 #[] w fun e w' => e = .returned (.bool true) ∧ Below w.heap.size w w' := by
  have H := hof_ok 3 10 (some ⟨w.heap.size, 0, none⟩) 3 [5, 25, 99] _ (by decide) (rdh3 w) (by decide) nn3
  rw [show ([5, 25, 99] : List Int).length = 3 from rfl, cnt3] at H
  have HH := Lib.hid H
  clear H
  go_enter Try.func25, Try.ntmps25
  go_wp2_with fail
  refine HH.out.mono ?_
  rintro e w1 ⟨A, c, rfl, hR, hb⟩
  have hb1 : Below w.heap.size w w1 := ((Below.refl _ _).alloc (Nat.le_refl _) _).trans (hb.mono (by simp))
  have R := Lib.hid hR
  clear hR hb
  go_wp2_with fail
  refine (equal_int A (some ⟨w1.heap.size, 0, none⟩) c 3 [1, 0, 2] _ (R.out.kept ((Below.refl _ _).alloc (Nat.le_refl _) _)) (rdh1 w1) (by decide)).mono ?_
  rintro e w2 ⟨rfl, q, rfl⟩
  go_wp2_with fail
  go_ret
  exact ⟨rfl, below_drewN (hb1.alloc hb1.size _) q⟩
end Go.Proofs.Ytnjdeikikdieoaa
