/- hist.Total, hist.Add at any rows of numbers (sums that wrap). -/
import Derived.Test.YtnjdeikikdieoaaSpanA
import Derived.Test.YtnjdeikikdieoaaShelf
import Derived.Shelf.Abstract
import Derived.WalkKit
import Derived.IntWalk
import Derived.Lib.Hide
import Derived.WalkSpells
import Derived.WalkLawsBesides
import Derived.OwnWalk
namespace Go.Proofs.Ytnjdeikikdieoaa
open Go.RowKit
set_option linter.unusedSimpArgs false
set_option linter.unusedVariables false
/-- all numbers together, as far as sums go -/
def totL (l : List Int) : Int := l.foldl (fun s x => IntKind.i64.wrap (s + x)) 0
theorem totL_snoc (l : List Int) (x : Int) : totL (l ++ [x]) = IntKind.i64.wrap (totL l + x) := by simp [totL]
theorem take_at {zs : List Int} {k : Nat} (h : k < zs.length) : zs.take (k + 1) = zs.take k ++ [zat zs k] := by
  rw [List.take_succ_eq_append_getElem h]; unfold zat; rw [List.getD_eq_getElem?_getD, List.getElem?_eq_getElem h]; rfl
theorem totL_take {zs : List Int} {k : Nat} (h : k < zs.length) : totL (zs.take (k + 1)) = IntKind.i64.wrap (totL (zs.take k) + zat zs k) := by rw [take_at h, totL_snoc]
/-- two rows together -/
def sumF (a b : List Int) (i : Nat) : Int := IntKind.i64.wrap (zat a i + zat b i)
def sumL (a b : List Int) : List Int := rowL (sumF a b) (max a.length b.length)
theorem sumF_comm (a b : List Int) (i : Nat) : sumF a b i = sumF b a i := by unfold sumF; rw [Int.add_comm]
theorem sumL_comm (a b : List Int) : sumL a b = sumL b a := by unfold sumL; rw [Nat.max_comm]; exact rowL_congr fun i _ => sumF_comm a b i
theorem wrap_i64_in (x : Int) : -9223372036854775808 ≤ IntKind.i64.wrap x ∧ IntKind.i64.wrap x ≤ 9223372036854775807 := by rw [IntKind.wrap_i64]; omega
theorem wrap_i64_id {x : Int} (h : -9223372036854775808 ≤ x) (h' : x ≤ 9223372036854775807) : IntKind.i64.wrap x = x := by rw [IntKind.wrap_i64]; omega
theorem zat_out {l : List Int} {i : Nat} (h : l.length ≤ i) : zat l i = 0 := by unfold zat; rw [List.getD_eq_getElem?_getD, List.getElem?_eq_none h]; rfl
theorem isI_in {w : World} {v : Value} {l : List Int} (h : IsI w v l) (i : Nat) : -9223372036854775808 ≤ zat l i ∧ zat l i ≤ 9223372036854775807 := by
  by_cases hi : i < l.length
  · obtain ⟨A, c, _, hr, _⟩ := h
    obtain ⟨_, _, _, _, hw⟩ := hr i hi
    exact wf_i64_iff.1 hw
  · rw [zat_out (by omega)]; omega
theorem sumL_in {a b : List Int} : ∀ x, x ∈ sumL a b → -9223372036854775808 ≤ x ∧ x ≤ 9223372036854775807 := by
  intro x hx
  unfold sumL rowL at hx
  obtain ⟨i, _, rfl⟩ := List.mem_map.1 hx
  exact wrap_i64_in _
set_option maxHeartbeats 1000000 in
theorem htot_any (v : Value) (l : List Int) (w : World) (hv : IsI w v l) (hl : l.length ≤ 100000) :
    Calls Try.prog 24 #[v] w fun e w' => e = .returned (.int .i64 (totL l)) ∧ w = w' := by
  obtain ⟨A, c, rfl, hr, h1, h2, h3⟩ := hv
  have HR := Lib.hid hr
  have HT := Lib.hid (fun k (h : k < l.length) => totL_take h)
  have HE : Hid (totL (l.take l.length) = totL l) := Lib.hid (by rw [List.take_length])
  have h0 : totL (l.take 0) = 0 := rfl
  have H0 := Lib.hid h0
  clear hr h1 h2 h3 h0
  go_enter Try.func24, Try.ntmps24
  go_wp2_with fail
  go_loop [3, 8] (fun s i => ∃ k : Nat, k ≤ l.length ∧ i = .int .i64 k ∧ s = .int .i64 (totL (l.take k))) (fun _ i => l.length - (intOf i).toNat)
  case atStart => exact ⟨0, by omega, rfl, by rw [H0.out]⟩
  case round =>
    obtain ⟨k, hk, rfl, rfl⟩ := hrel
    by_cases h : k < l.length
    · obtain ⟨b, off, rfl, _, hc⟩ := rdI_row HR.out (by omega)
      have c1 := hc k h
      have E := Lib.hid (HT.out k h)
      obtain ⟨x, hx⟩ : ∃ x, zat l k = x := ⟨_, rfl⟩
      obtain ⟨y, hy⟩ : ∃ y, totL (l.take k) = y := ⟨_, rfl⟩
      rw [hx] at c1 E
      rw [hy] at E
      rw [hy]
      obtain ⟨z, hz⟩ : ∃ z, IntKind.i64.wrap (y + x) = z := ⟨_, rfl⟩
      rw [hz] at E
      clear hx hy hc
      go_wp2_with fail
      go_round
      case rel => exact ⟨k + 1, by omega, by go_num, by rw [E.out]⟩
      case measure => simp [intOf]; omega
    · obtain rfl : k = l.length := by omega
      rw [HE.out]
      go_wp2_with fail
      go_ret
      exact ⟨rfl, rfl⟩
/-- a copy that the call made -/
def CloR (l : List Int) (w : World) (e : Ending) (w' : World) : Prop := ∃ v', e = .returned v' ∧ w'.ownsRow w.heap.size 3 1 v' l.length (l.map (Value.int .i64)) ∧ Below w.heap.size w w'
theorem clone_ints (v : Value) (l : List Int) (w : World) (hv : IsI w v l) (hl : l.length ≤ 100000) :
    Calls Try.prog 37 #[v] w (CloR l w) := by
  obtain ⟨A, c, rfl, hr, h1, h2, h3⟩ := hv
  by_cases h0 : l.length = 0
  · obtain rfl : l = [] := List.eq_nil_of_length_eq_zero h0
    cases A with
    | none =>
      refine (Try.slices_Clone_int_nil _ c w).mono ?_
      rintro e w' ⟨rfl, rfl⟩
      exact ⟨_, rfl, World.ownsRow_nil _ _ _ _, Below.refl _ _⟩
    | some a =>
      refine (Try.slices_Clone_int_zero a c w).mono ?_
      rintro e w' ⟨v', rfl, ho, _, hb⟩
      exact ⟨v', rfl, ho, hb⟩
  · obtain ⟨b, off, rfl, _, hc⟩ := rdI_row hr (by omega)
    refine (Try.slices_Clone_int b off l.length c l w (Nat.le_refl _) (by omega) hc).mono ?_
    rintro e w' ⟨v', rfl, ho, _, hb⟩
    rw [List.take_length] at ho
    exact ⟨v', rfl, ho, hb⟩
/-- the row while it is summed up -/
def adF (a b : List Int) (k i : Nat) : Int := if i < k then sumF a b i else zat a i
theorem rowL_zat (l : List Int) : rowL (zat l) l.length = l := by
  apply List.ext_getElem
  · rw [rowL_len]
  · intro i h1 h2
    have := zat_get (ys := rowL (zat l) l.length) (i := i) h1
    rw [List.getElem?_eq_getElem h1] at this
    rw [Option.some.inj this, rowL_at _ h2]
    have := zat_get (ys := l) (i := i) h2
    rw [List.getElem?_eq_getElem h2] at this
    exact (Option.some.inj this).symm
theorem adF_0 (a b : List Int) : rowL (adF a b 0) a.length = a := by
  rw [rowL_congr (b := zat a) (fun i _ => by unfold adF; rw [if_neg (by omega)])]; exact rowL_zat a
theorem adF_end {w : World} {va : Value} {a b : List Int} (ha : IsI w va a) (h : b.length ≤ a.length) : rowL (adF a b b.length) a.length = sumL a b := by
  unfold sumL; rw [Nat.max_eq_left h]
  refine rowL_congr fun i _ => ?_
  unfold adF; split
  · rfl
  · rename_i hi
    have := isI_in ha i
    unfold sumF; rw [zat_out (l := b) (by omega), Int.add_zero, wrap_i64_id this.1 this.2]
theorem adF_set (a b : List Int) (k n : Nat) (u : Int) (hu : u = sumF a b k) : (rowL (adF a b k) n).set k u = rowL (adF a b (k + 1)) n := by
  rw [rowL_set]
  refine rowL_congr fun i _ => ?_
  unfold adF
  by_cases h : i = k
  · rw [if_pos h, if_pos (by omega), hu, h]
  · rw [if_neg h]
    by_cases h2 : i < k
    · rw [if_pos h2, if_pos (by omega)]
    · rw [if_neg h2, if_neg (by omega)]
def AddR (a b : List Int) (w : World) (e : Ending) (w' : World) : Prop := ∃ v', e = .returned v' ∧ IsI w' v' (sumL a b) ∧ Below w.heap.size w w'
theorem hadd_fin {w w' : World} {va v : Value} {a b : List Int} (ha : IsI w va a) (h : b.length ≤ a.length) (ho : w'.ownsRow w.heap.size 3 1 v a.length ((rowL (adF a b b.length) a.length).map (Value.int .i64))) : IsI w' v (sumL a b) := by
  rw [adF_end ha h] at ho
  refine own_isI (base := w.heap.size) ?_ sumL_in
  have e : (sumL a b).length = a.length := by unfold sumL; rw [rowL_len]; omega
  rw [e]; exact ho
set_option maxRecDepth 100000 in
set_option maxHeartbeats 2000000 in
theorem hadd_ge (va vb : Value) (a b : List Int) (w : World) (ha : IsI w va a) (hb : IsI w vb b) (hla : a.length ≤ 1000) (hlb : b.length ≤ 1000) (hcmp : b.length ≤ a.length) :
    Calls Try.prog 23 #[va, vb] w (AddR a b w) := by
  have HL := Lib.hid ha
  have KC := Lib.hid (clone_ints va a w ha (by omega))
  have HF := Lib.hid (fun (v : Value) (w' : World) (h : b.length ≤ a.length) => hadd_fin (w' := w') (v := v) ha h)
  have H0 := Lib.hid (adF_0 a b)
  obtain ⟨A, ca, rfl, hra, _, _, _⟩ := ha
  obtain ⟨B, cb, rfl, hrb, _, _, _⟩ := hb
  have HB := Lib.hid hrb
  have hc' : ¬ (a.length : Int) < (b.length : Int) := by omega
  have hle : b.length ≤ a.length := by omega
  unfold CloR at KC
  obtain ⟨n, hn⟩ : ∃ n, a.length = n := ⟨_, rfl⟩
  obtain ⟨m, hm⟩ : ∃ m, b.length = m := ⟨_, rfl⟩
  rw [hn] at KC HF H0 hc' hla hle
  rw [hm] at HF hc' hlb hle
  have HN := Lib.hid hn; have HM := Lib.hid hm
  rw [hn, hm]
  clear hra hrb hcmp hn hm
  go_enter Try.func23, Try.ntmps23
  go_wp2_with fail
  refine KC.out.mono ?_
  rintro e w1 ⟨v1, rfl, ho, hb1⟩
  rw [← H0.out] at ho
  have HO := Lib.hid ho
  have HB1 := Lib.hid hb1
  clear ho hb1
  obtain ⟨g, cap, rfl⟩ := mkSlice HO.out
  go_wp2_with fail
  go_loopw [19] (fun i wr => ∃ k : Nat, k ≤ m ∧ i = .int .i64 k ∧ Hid (wr.ownsRow w.heap.size 3 1 (.slice g n cap) n ((rowL (adF a b k) n).map (Value.int .i64))) ∧ Hid (Below w.heap.size w wr)) (fun i _ => m - (intOf i).toNat)
  case atStart => exact ⟨0, by omega, rfl, HO, HB1⟩
  case round =>
    obtain ⟨k, hk, rfl, HK, HW⟩ := hrel
    by_cases h : k < m
    · obtain ⟨b1, o1, rfl, hlt, hc⟩ := rdI_row HB.out (by have := HM.out; omega)
      have c0 := (HW.out.cell (p := ⟨b1, o1 + k, none⟩) hlt).trans (hc k (by have := HM.out; omega))
      obtain ⟨g', rfl⟩ : ∃ g', g = some ⟨g', 0, none⟩ := by
        rcases HK.out.2 with ⟨hv, hz⟩ | ⟨g', cap', cur, hv, _⟩
        · exfalso; omega
        · simp only [Value.slice.injEq] at hv; exact ⟨g', hv.1⟩
      have hge : w.heap.size ≤ g' := ownR_ge HK.out rfl
      have c1 : wr.cell? ⟨g', k, none⟩ = _ := ownR_cell HK.out (by omega : k < n)
      have f1 := HK.out.frozenAt k
      have e1 : adF a b k k = zat a k := by unfold adF; rw [if_neg (by omega)]
      rw [e1] at c1
      have S := Lib.hid (fun u (hu : u = sumF a b k) => mkRow_put (u := u) HK.out (adF_set a b k n u hu))
      have E : Hid (IntKind.i64.wrap (zat a k + zat b k) = sumF a b k) := Lib.hid rfl
      have HG := Lib.hid hge
      obtain ⟨x, hx⟩ : ∃ x, zat a k = x := ⟨_, rfl⟩
      obtain ⟨y, hy⟩ : ∃ y, zat b k = y := ⟨_, rfl⟩
      rw [hx] at c1 E
      rw [hy] at c0 E
      obtain ⟨z, hz⟩ : ∃ z, IntKind.i64.wrap (x + y) = z := ⟨_, rfl⟩
      rw [hz] at E
      clear hc e1 hx hy hge
      go_wp2_with fail
      go_roundw
      case rel => exact ⟨k + 1, by omega, by go_num, Lib.hid (S.out _ (by first | exact E.out | (rw [hz]; exact E.out))), Lib.hid (HW.out.setCell HG.out _)⟩
      case measure => simp [intOf]; omega
    · obtain rfl : k = m := by omega
      go_wp2_with fail
      go_ret
      exact ⟨_, rfl, HF.out _ _ hle HK.out, HW.out⟩
set_option maxRecDepth 100000 in
set_option maxHeartbeats 2000000 in
theorem hadd_lt (va vb : Value) (a b : List Int) (w : World) (ha : IsI w va a) (hb : IsI w vb b) (hla : a.length ≤ 1000) (hlb : b.length ≤ 1000) (hcmp : b.length < a.length) :
    Calls Try.prog 23 #[vb, va] w (AddR a b w) := by
  have HL := Lib.hid ha
  have KC := Lib.hid (clone_ints va a w ha (by omega))
  have HF := Lib.hid (fun (v : Value) (w' : World) (h : b.length ≤ a.length) => hadd_fin (w' := w') (v := v) ha h)
  have H0 := Lib.hid (adF_0 a b)
  obtain ⟨A, ca, rfl, hra, _, _, _⟩ := ha
  obtain ⟨B, cb, rfl, hrb, _, _, _⟩ := hb
  have HB := Lib.hid hrb
  have hc' : (b.length : Int) < (a.length : Int) := by omega
  have hle : b.length ≤ a.length := by omega
  unfold CloR at KC
  obtain ⟨n, hn⟩ : ∃ n, a.length = n := ⟨_, rfl⟩
  obtain ⟨m, hm⟩ : ∃ m, b.length = m := ⟨_, rfl⟩
  rw [hn] at KC HF H0 hc' hla hle
  rw [hm] at HF hc' hlb hle
  have HN := Lib.hid hn; have HM := Lib.hid hm
  rw [hn, hm]
  clear hra hrb hcmp hn hm
  go_enter Try.func23, Try.ntmps23
  go_wp2_with fail
  refine KC.out.mono ?_
  rintro e w1 ⟨v1, rfl, ho, hb1⟩
  rw [← H0.out] at ho
  have HO := Lib.hid ho
  have HB1 := Lib.hid hb1
  clear ho hb1
  obtain ⟨g, cap, rfl⟩ := mkSlice HO.out
  go_wp2_with fail
  go_loopw [19] (fun i wr => ∃ k : Nat, k ≤ m ∧ i = .int .i64 k ∧ Hid (wr.ownsRow w.heap.size 3 1 (.slice g n cap) n ((rowL (adF a b k) n).map (Value.int .i64))) ∧ Hid (Below w.heap.size w wr)) (fun i _ => m - (intOf i).toNat)
  case atStart => exact ⟨0, by omega, rfl, HO, HB1⟩
  case round =>
    obtain ⟨k, hk, rfl, HK, HW⟩ := hrel
    by_cases h : k < m
    · obtain ⟨b1, o1, rfl, hlt, hc⟩ := rdI_row HB.out (by have := HM.out; omega)
      have c0 := (HW.out.cell (p := ⟨b1, o1 + k, none⟩) hlt).trans (hc k (by have := HM.out; omega))
      obtain ⟨g', rfl⟩ : ∃ g', g = some ⟨g', 0, none⟩ := by
        rcases HK.out.2 with ⟨hv, hz⟩ | ⟨g', cap', cur, hv, _⟩
        · exfalso; omega
        · simp only [Value.slice.injEq] at hv; exact ⟨g', hv.1⟩
      have hge : w.heap.size ≤ g' := ownR_ge HK.out rfl
      have c1 : wr.cell? ⟨g', k, none⟩ = _ := ownR_cell HK.out (by omega : k < n)
      have f1 := HK.out.frozenAt k
      have e1 : adF a b k k = zat a k := by unfold adF; rw [if_neg (by omega)]
      rw [e1] at c1
      have S := Lib.hid (fun u (hu : u = sumF a b k) => mkRow_put (u := u) HK.out (adF_set a b k n u hu))
      have E : Hid (IntKind.i64.wrap (zat a k + zat b k) = sumF a b k) := Lib.hid rfl
      have HG := Lib.hid hge
      obtain ⟨x, hx⟩ : ∃ x, zat a k = x := ⟨_, rfl⟩
      obtain ⟨y, hy⟩ : ∃ y, zat b k = y := ⟨_, rfl⟩
      rw [hx] at c1 E
      rw [hy] at c0 E
      obtain ⟨z, hz⟩ : ∃ z, IntKind.i64.wrap (x + y) = z := ⟨_, rfl⟩
      rw [hz] at E
      clear hc e1 hx hy hge
      go_wp2_with fail
      go_roundw
      case rel => exact ⟨k + 1, by omega, by go_num, Lib.hid (S.out _ (by first | exact E.out | (rw [hz]; exact E.out))), Lib.hid (HW.out.setCell HG.out _)⟩
      case measure => simp [intOf]; omega
    · obtain rfl : k = m := by omega
      go_wp2_with fail
      go_ret
      exact ⟨_, rfl, HF.out _ _ hle HK.out, HW.out⟩
theorem hadd_any (va vb : Value) (a b : List Int) (w : World) (ha : IsI w va a) (hb : IsI w vb b) (hla : a.length ≤ 1000) (hlb : b.length ≤ 1000) :
    Calls Try.prog 23 #[va, vb] w (AddR a b w) := by
  by_cases h : b.length ≤ a.length
  · exact hadd_ge va vb a b w ha hb hla hlb h
  · have := hadd_lt vb va b a w hb ha hlb hla (by omega)
    unfold AddR at this ⊢
    rw [sumL_comm a b]; exact this
end Go.Proofs.Ytnjdeikikdieoaa
