/- Contracts of digits.Read at texts of numbers; of strconv.FormatUint at a small number; of the law's alive. -/
import Derived.Test.YtlckgdgmanmbhaaDoorRows
import Derived.Test.YtlckgdgmanmbhaaDoorRowKit
import Derived.Test.YtlckgdgmanmbhaaDoorShelf
import Derived.Test.YtlckgdgmanmbhaaDoorNumsMath
import Derived.Test.YtlckgdgmanmbhaaDoorNumsA
import Derived.Test.YtlckgdgmanmbhaaDoorNumsB
import Derived.Test.YtlckgdgmanmbhaaDoorDigA
import Derived.Test.YtlckgdgmanmbhaaDoorDigB
import Derived.Test.YtlckgdgmanmbhaaDoorTab
import Derived.Test.YtlckgdgmanmbhaaDoorDigMath
import Derived.Test.YtlckgdgmanmbhaaDoorDigC
import Derived.WalkKit
import Derived.IntWalk
import Derived.Lib.Hide
import Derived.Lib.ItoaLen
import Derived.Lib.ItoaMem
import Derived.WalkSpells
import Derived.WalkLawsBesides
import Derived.Laws.IdiomStrings
import Derived.Laws.StructEq
import Derived.Deep.QuietTactic
import Derived.BigQuiet
namespace Go.Proofs.YtlckgdgmanmbhaaDoor
open Go.RowKit Go.Sort
set_option linter.unusedSimpArgs false
set_option linter.unusedVariables false
/-- bytes as a string -/
def bL (L : List UInt8) : ByteArray := ByteArray.mk L.toArray
theorem bL_size (L : List UInt8) : (bL L).size = L.length := by show L.toArray.size = _; simp
theorem bL_list (L : List UInt8) : (bL L).toList = L := by rw [ByteArray.toList_eq]; rfl
theorem bL_at (L : List UInt8) (k : Nat) (h : k < (bL L).size) (h' : k < L.length) : (bL L)[k]'h = L[k]'h' := rfl
theorem dig_at {L : List UInt8} (hD : AllD L) : ∀ k (h : k < (bL L).size), 48 ≤ ((bL L)[k]'h).toNat ∧ ((bL L)[k]'h).toNat ≤ 57 := by
  intro k h
  have h' : k < L.length := by rw [← bL_size]; exact h
  rw [bL_at L k h h']
  exact hD _ (List.getElem_mem h')
theorem plain_L (L : List UInt8) (w : World) (h : Plain L) (hl : L.length ≤ 1000) :
    Calls Tryd.prog 54 #[.string (bL L)] w fun e w' => e = .returned (.bool true) ∧ w = w' := by
  refine plain_yes (bL L) w (by rw [bL_size]; exact hl) (dig_at h.1) ?_
  rw [bL_list]
  by_cases e : L = [48]
  · left; rw [beq_iff_eq]; exact e
  · right
    rcases h.2 with e2 | ⟨hn, h0⟩
    · exact absurd e2 e
    · refine ⟨by rw [beq_eq_false_iff_ne]; exact e, ?_, ?_, ?_⟩
      · cases L with
        | nil => exact absurd rfl hn
        | cons x t => rfl
      · rw [bL_size]
        cases L with
        | nil => exact absurd rfl hn
        | cons x t => simp
      · intro h1 he
        cases L with
        | nil => exact absurd rfl hn
        | cons x t =>
          apply h0
          have : x.toNat = 48 := he
          have : x = 48 := UInt8.toNat_inj.1 (this.trans rfl)
          rw [this]; rfl
theorem take_val {L : List UInt8} {k : Nat} (h : k < L.length) : dval (L.take (k + 1)) = 10 * dval (L.take k) + ((L[k]'h).toNat - 48) := by
  rw [List.take_add_one, List.getElem?_eq_getElem h]
  exact dval_snoc _ _
theorem take_le (L : List UInt8) : ∀ d k, k + d = L.length → dval (L.take k) ≤ dval L
  | 0, k, h => by rw [show L.take k = L from List.take_of_length_le (by omega)]; exact Nat.le_refl _
  | d + 1, k, h => by
    have h1 := take_le L d (k + 1) (by omega)
    rw [take_val (show k < L.length by omega)] at h1
    omega
theorem counted_L (L : List UInt8) (w : World) (h : AllD L) (hl : L.length ≤ 1000) (hm : dval L ≤ 9223372036854775808) :
    Calls Tryd.prog 55 #[.string (bL L)] w fun e w' => e = .returned (.tuple #[.int .i64 (-(dval L : Int)), .int .i64 0]) ∧ w = w' := by
  have := counted_ok (bL L) (fun k => dval (L.take k)) w (by rw [bL_size]; exact hl) (dig_at h) rfl
    (fun k hk => by have h' : k < L.length := by rw [← bL_size]; exact hk
                    rw [bL_at L k hk h']; exact take_val h')
    (fun k hk => by rw [bL_size] at hk; exact Nat.le_trans (take_le L (L.length - k) k (by omega)) hm)
  rw [bL_size, List.take_length] at this
  exact this
theorem pre_no {L : List UInt8} (h : AllD L) : Lib.hasPrefix L [45] = false ∧ Lib.trimPrefix L [45] = L := by
  have e : Lib.hasPrefix L [45] = false := by
    cases L with
    | nil => rfl
    | cons x t =>
      have := h x (by simp)
      show ([45] : List UInt8).isPrefixOf (x :: t) = false
      have hx : ((45 : UInt8) == x) = false := by
        rw [beq_eq_false_iff_ne]; intro e; subst e; simp at this
      simp [List.isPrefixOf, hx]
  exact ⟨e, by unfold Lib.trimPrefix; rw [e]; rfl⟩
theorem pre_yes (L : List UInt8) : Lib.hasPrefix (45 :: L) [45] = true ∧ Lib.trimPrefix (45 :: L) [45] = L := by
  have e : Lib.hasPrefix (45 :: L) [45] = true := by show ([45] : List UInt8).isPrefixOf (45 :: L) = true; simp [List.isPrefixOf]
  exact ⟨e, by unfold Lib.trimPrefix; rw [e]; rfl⟩
theorem cut_no (L : List UInt8) (w : World) (h : AllD L) :
    Calls Tryd.prog 53 #[.string (bL L), .string ⟨#[45]⟩] w fun e w' => e = .returned (.tuple #[.string (bL L), .bool false]) ∧ w = w' :=
  (Tryd.strings_CutPrefix (bL L) ⟨#[45]⟩ w).mono fun e w' ⟨h1, h2⟩ => ⟨by
    rw [h1]
    show Ending.returned (.tuple #[.string ⟨(Lib.trimPrefix L [45]).toArray⟩, .bool (Lib.hasPrefix L [45])]) = _
    rw [(pre_no h).1, (pre_no h).2]; rfl, h2.symm⟩
theorem cut_yes (L : List UInt8) (w : World) :
    Calls Tryd.prog 53 #[.string (bL (45 :: L)), .string ⟨#[45]⟩] w fun e w' => e = .returned (.tuple #[.string (bL L), .bool true]) ∧ w = w' :=
  (Tryd.strings_CutPrefix (bL (45 :: L)) ⟨#[45]⟩ w).mono fun e w' ⟨h1, h2⟩ => ⟨by
    rw [h1]
    show Ending.returned (.tuple #[.string ⟨(Lib.trimPrefix (45 :: L) [45]).toArray⟩, .bool (Lib.hasPrefix (45 :: L) [45])]) = _
    rw [(pre_yes L).1, (pre_yes L).2]; rfl, h2.symm⟩
set_option maxRecDepth 100000 in
set_option maxHeartbeats 1000000 in
theorem read_pos (L : List UInt8) (w : World) (h : Plain L) (hl : L.length ≤ 1000) (hm : dval L ≤ 9223372036854775807) :
    Calls Tryd.prog 37 #[.string (bL L)] w fun e w' => e = .returned (.tuple #[.int .i64 (dval L), .int .i64 0]) ∧ w = w' := by
  have H1 := Lib.hid (cut_no L w h.1)
  have H2 := Lib.hid (plain_L L w h hl)
  have H3 := counted_L L w h.1 hl (by omega)
  obtain ⟨V, hV⟩ : ∃ V : Int, (dval L : Int) = V := ⟨_, rfl⟩
  have f := fit_yes (n := V) (by omega)
  have H4 := sub_any 0 (-V) w (by omega) (by omega) (by omega) (by omega)
  rw [show (0 : Int) - -V = V by omega, f.1, f.2] at H4
  rw [hV] at H3
  rw [hV]
  have H3 := Lib.hid H3
  have H4 := Lib.hid H4
  generalize bL L = s at *
  clear h hl hm hV f
  go_enter Tryd.func37, Tryd.ntmps37
  go_wp2_with (first
    | (go_at_call 53; refine H1.out.mono ?_; rintro e w' ⟨rfl, rfl⟩)
    | (go_at_call 54; refine H2.out.mono ?_; rintro e w' ⟨rfl, rfl⟩)
    | (go_at_call 55; refine H3.out.mono ?_; rintro e w' ⟨rfl, rfl⟩)
    | (go_at_call 56; refine H4.out.mono ?_; rintro e w' ⟨rfl, rfl⟩))
  go_ret2
  exact ⟨rfl, rfl⟩
set_option maxRecDepth 100000 in
set_option maxHeartbeats 1000000 in
theorem read_neg (L : List UInt8) (w : World) (h : Plain L) (hl : L.length ≤ 1000) (hm : dval L ≤ 9223372036854775808) (h0 : L ≠ [48]) :
    Calls Tryd.prog 37 #[.string (bL (45 :: L))] w fun e w' => e = .returned (.tuple #[.int .i64 (-(dval L : Int)), .int .i64 0]) ∧ w = w' := by
  have H1 := Lib.hid (cut_yes L w)
  have H2 := Lib.hid (plain_L L w h hl)
  have H3 := Lib.hid (counted_L L w h.1 hl hm)
  have p : ((bL L).toList == [48]) = false := by rw [bL_list, beq_eq_false_iff_ne]; exact h0
  generalize bL (45 :: L) = s at *
  generalize bL L = t at *
  clear h hl hm h0
  go_enter Tryd.func37, Tryd.ntmps37
  go_wp2_with (first
    | (go_at_call 53; refine H1.out.mono ?_; rintro e w' ⟨rfl, rfl⟩)
    | (go_at_call 54; refine H2.out.mono ?_; rintro e w' ⟨rfl, rfl⟩)
    | (go_at_call 55; refine H3.out.mono ?_; rintro e w' ⟨rfl, rfl⟩))
  go_ret2
  exact ⟨rfl, rfl⟩
/-- what is written is read -/
theorem read_itoa (n : Int) (w : World) (h0 : -9223372036854775808 ≤ n) (h1 : n ≤ 9223372036854775807) :
    Calls Tryd.prog 37 #[.string ⟨(Lib.itoa n).toArray⟩] w fun e w' => e = .returned (.tuple #[.int .i64 n, .int .i64 0]) ∧ w = w' := by
  have hlen := Lib.itoa_length_le n h0 h1
  by_cases h : n < 0
  · have hi : Lib.itoa n = 45 :: Lib.decDigits n.natAbs := by unfold Lib.itoa; rw [if_pos h]
    rw [hi] at hlen ⊢
    have hne : Lib.decDigits n.natAbs ≠ [48] := fun e => by
      have := dval_dec n.natAbs
      rw [e] at this
      have h2 : dval [48] = 0 := rfl
      omega
    have := read_neg (Lib.decDigits n.natAbs) w (plain_dec _) (by simp at hlen; omega) (by rw [dval_dec]; omega) hne
    rw [dval_dec, show -((n.natAbs : Nat) : Int) = n by omega] at this
    exact this
  · obtain ⟨m, rfl⟩ := Int.eq_ofNat_of_zero_le (show 0 ≤ n by omega)
    rw [Lib.itoa_nonneg] at hlen ⊢
    have := read_pos (Lib.decDigits m) w (plain_dec _) (by omega) (by rw [dval_dec]; omega)
    rw [dval_dec] at this
    exact this
end Go.Proofs.YtlckgdgmanmbhaaDoor
