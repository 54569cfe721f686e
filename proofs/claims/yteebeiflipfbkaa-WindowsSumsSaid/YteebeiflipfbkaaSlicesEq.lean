/- slices.Equal at rows of numbers: two rows with the same numbers are equal. -/
import Derived.Test.YteebeiflipfbkaaRows
import Derived.Test.YteebeiflipfbkaaRowKit
import Derived.WalkKit
import Derived.Lib.Hide
import Derived.WalkSpells
import Derived.WalkLawsBesides
import Derived.Deep.QuietTactic
import Derived.BigQuiet
namespace Go.Proofs.Yteebeiflipfbkaa
open Go.RowKit
set_option linter.unusedSimpArgs false
set_option linter.unusedVariables false
theorem spot_none {w : World} {a : Addr} {v : Value} (h : w.cell? a = some v) : a.spot = none := by
  cases hs : a.spot with
  | none => rfl
  | some x =>
    unfold World.cell? at h
    split at h
    · simp [hs] at h
    · cases h
/-- a row of numbers that isn't empty: where it begins, and its cells -/
theorem rdI_row {w : World} {k : IntKind} {A : Option Addr} {zs : List Int} (h : RdI w k A zs) (hn : 0 < zs.length) : ∃ b off, A = some ⟨b, off, none⟩ ∧ b < w.heap.size ∧ ∀ i, i < zs.length → w.cell? ⟨b, off + i, none⟩ = some (.int k (zat zs i)) := by
  obtain ⟨a, e, hlt, hc, _⟩ := h 0 hn
  have hs : a.spot = none := spot_none (by simpa [Addr.add] using hc)
  obtain ⟨b, off, sp⟩ := a
  simp only at hs
  subst hs
  refine ⟨b, off, e, hlt, fun i hi => ?_⟩
  obtain ⟨a', e', _, hc', _⟩ := h i hi
  rw [e] at e'
  cases e'
  by_cases h0 : i = 0
  · subst h0; simpa [Addr.add] using hc'
  · simpa [Addr.add, h0] using hc'
theorem rdI_mk {w : World} {k : IntKind} {b off : Nat} {zs : List Int} (h : ∀ i, i < zs.length → w.cell? ⟨b, off + i, none⟩ = some (.int k (zat zs i)) ∧ (Lit.int k (zat zs i)).wf = true) : RdI w k (some ⟨b, off, none⟩) zs := fun i hi => by
  obtain ⟨h1, h2⟩ := h i hi
  refine ⟨⟨b, off, none⟩, rfl, lt_of_cell (a := ⟨b, off + i, none⟩) h1, ?_, h2⟩
  by_cases h0 : i = 0
  · subst h0; simpa [Addr.add] using h1
  · simpa [Addr.add, h0] using h1
theorem rdI_none {w : World} {k : IntKind} {A : Option Addr} {zs : List Int} (h : zs.length = 0) : RdI w k A zs := fun i hi => absurd hi (by omega)
theorem rdI_of_len {w : World} {k : IntKind} {A : Option Addr} {zs : List Int} (h : RdI w k A zs) : zs.length = 0 ∨ ∃ b off, A = some ⟨b, off, none⟩ := by
  by_cases h0 : zs.length = 0
  · exact .inl h0
  · obtain ⟨b, off, e, _⟩ := rdI_row h (by omega); exact .inr ⟨b, off, e⟩
set_option maxHeartbeats 400000 in
theorem equal_u32_0 (A B : Option Addr) (c d : Nat) (w : World) :
    Calls Try.prog 84 #[.slice A 0 c, .slice B 0 d] w fun e w' => e = .returned (.bool true) ∧ ∃ k, w' = w.drewN k := by
  go_enter Try.func84, Try.ntmps84
  go_wp2_with fail
  go_loop [13] (fun i => i = .int .i64 0) (fun i => 0)
  case atStart => exact rfl
  case round =>
    obtain rfl := hrel
    go_wp2_with fail
    go_ret
    exact ⟨rfl, 0, rfl⟩
set_option maxHeartbeats 400000 in
theorem equal_u32 (A B : Option Addr) (c d : Nat) (zs : List Int) (w : World) (ha : RdI w .u32 A zs) (hb : RdI w .u32 B zs) (hl : zs.length ≤ 9223372036854775807) :
    Calls Try.prog 84 #[.slice A zs.length c, .slice B zs.length d] w fun e w' => e = .returned (.bool true) ∧ ∃ k, w' = w.drewN k := by
  by_cases hn : zs.length = 0
  · rw [hn]; exact equal_u32_0 A B c d w
  · obtain ⟨b1, o1, rfl, _, h1⟩ := rdI_row ha (by omega)
    obtain ⟨b2, o2, rfl, _, h2⟩ := rdI_row hb (by omega)
    have H1 := Lib.hid h1
    have H2 := Lib.hid h2
    clear ha hb h1 h2
    go_enter Try.func84, Try.ntmps84
    go_wp2_with fail
    go_loopw [13] (fun i wr => ∃ k : Nat, k ≤ zs.length ∧ i = .int .i64 k ∧ ∃ q, wr = w.drewN q) (fun i _ => zs.length - (intOf i).toNat)
    case atStart => exact ⟨0, by omega, rfl, 0, rfl⟩
    case round =>
      obtain ⟨k, hk, rfl, q, rfl⟩ := hrel
      by_cases h : k < zs.length
      · have c1 := H1.out k h
        have c2 := H2.out k h
        go_wp2_with fail
        go_quiet (fail)
        go_wp2_with fail
        go_roundw
        case rel => exact ⟨k + 1, by omega, by go_num, _, rfl⟩
        case measure => simp [intOf]; omega
      · go_wp2_with fail
        go_ret
        exact ⟨rfl, _, rfl⟩
end Go.Proofs.Yteebeiflipfbkaa
