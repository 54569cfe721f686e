/- Contracts of draw.Of, Span and of the document's Means. -/
import Derived.Test.YtkepplkfjcoemabRows
import Derived.Test.YtkepplkfjcoemabRowKit
import Derived.Test.YtkepplkfjcoemabSlicesEq
import Derived.Test.YtkepplkfjcoemabSorted
import Derived.WalkKit
import Derived.IntWalk
import Derived.Lib.Hide
import Derived.WalkSpells
import Derived.WalkLawsBesides
import Derived.Deep.QuietTactic
import Derived.BigQuiet
namespace Go.Proofs.Ytkepplkfjcoemab
open Go.RowKit
set_option linter.unusedSimpArgs false
set_option linter.unusedVariables false
/-- place k is the first one whose number is above v (all of them: there is none) -/
def FirstAb (zs : List Int) (v : Int) (k : Nat) : Prop := k ≤ zs.length ∧ (∀ j, j < k → zat zs j ≤ v) ∧ (k < zs.length → v < zat zs k)
theorem firstAb_ex (zs : List Int) (v : Int) : ∃ k, FirstAb zs v k := by
  have h : ∀ m, m ≤ zs.length → (∀ j, j < m → zat zs j ≤ v) ∨ ∃ k, k < m ∧ (∀ j, j < k → zat zs j ≤ v) ∧ v < zat zs k := by
    intro m
    induction m with
    | zero => exact fun _ => .inl fun j hj => absurd hj (by omega)
    | succ m ih =>
      intro hm
      rcases ih (by omega) with h | ⟨k, hk, h1, h2⟩
      · by_cases hv : v < zat zs m
        · exact .inr ⟨m, by omega, h, hv⟩
        · refine .inl fun j hj => ?_
          rcases Nat.lt_or_ge j m with h3 | h3
          · exact h j h3
          · obtain rfl : j = m := by omega
            omega
      · exact .inr ⟨k, by omega, h1, h2⟩
  rcases h zs.length (Nat.le_refl _) with h | ⟨k, hk, h1, h2⟩
  · exact ⟨zs.length, Nat.le_refl _, h, fun h => absurd h (by omega)⟩
  · exact ⟨k, by omega, h1, fun _ => h2⟩
set_option maxHeartbeats 400000 in
theorem above_any (n v : Int) (B : Nat) (w : World) (hc : w.cell? ⟨B, 0, none⟩ = some (.int .u32 v)) (hv : 0 ≤ v) (hv' : v ≤ 4294967295) :
    Calls Try.prog 65 #[.int .u64 n, .pointer (some ⟨B, 0, none⟩)] w fun e w' => e = .returned (.bool (decide (v < n))) ∧ w = w' := by
  go_enter Try.func65, Try.ntmps65
  go_wp2_with fail
  go_ret
  exact ⟨rfl, rfl⟩
set_option maxHeartbeats 1000000 in
theorem idx_found (b off c k B : Nat) (zs : List Int) (v : Int) (w : World) (hr : RdI w .u64 (some ⟨b, off, none⟩) zs) (hl : zs.length ≤ 1000) (hk : k < zs.length) (hf : FirstAb zs v k) (hB : w.cell? ⟨B, 0, none⟩ = some (.int .u32 v)) (hv : 0 ≤ v) (hv' : v ≤ 4294967295) :
    Calls Try.prog 64 #[.slice (some ⟨b, off, none⟩) zs.length c, .func (.func 65) #[] #[.pointer (some ⟨B, 0, none⟩)]] w fun e w' => e = .returned (.int .i64 k) ∧ w = w' := by
  obtain ⟨b', o', e, _, hc⟩ := rdI_row hr (by omega)
  cases e
  have HC := Lib.hid hc
  have HB := Lib.hid hB
  have H1 := Lib.hid hf.2.1
  have H2 := Lib.hid (hf.2.2 hk)
  clear hr hc hf hB
  go_enter Try.func64, Try.ntmps64
  go_wp2_with fail
  go_loop [8] (fun i => ∃ j : Nat, j ≤ k ∧ i = .int .i64 j) (fun i => zs.length - (intOf i).toNat)
  case atStart => exact ⟨0, by omega, rfl⟩
  case round =>
    obtain ⟨j, hj, rfl⟩ := hrel
    have hjl : j < zs.length := by omega
    have c1 := HC.out j hjl
    by_cases h : j < k
    · have hd : decide (v < zat zs j) = false := decide_eq_false (by have := H1.out j h; omega)
      go_wp2_with (go_at_call 65; refine (above_any _ v B _ HB.out hv hv').mono ?_; rintro e w' ⟨rfl, rfl⟩; rw [hd])
      go_round
      case rel => exact ⟨j + 1, by omega, by go_num⟩
      case measure => simp [intOf]; omega
    · obtain rfl : j = k := by omega
      have hd : decide (v < zat zs j) = true := decide_eq_true H2.out
      go_wp2_with (go_at_call 65; refine (above_any _ v B _ HB.out hv hv').mono ?_; rintro e w' ⟨rfl, rfl⟩; rw [hd])
      go_ret
      exact ⟨rfl, rfl⟩
set_option maxHeartbeats 1000000 in
theorem idx_none (A : Option Addr) (c B : Nat) (zs : List Int) (v : Int) (w : World) (hr : RdI w .u64 A zs) (hl : zs.length ≤ 1000) (hf : ∀ j, j < zs.length → zat zs j ≤ v) (hB : w.cell? ⟨B, 0, none⟩ = some (.int .u32 v)) (hv : 0 ≤ v) (hv' : v ≤ 4294967295) :
    Calls Try.prog 64 #[.slice A zs.length c, .func (.func 65) #[] #[.pointer (some ⟨B, 0, none⟩)]] w fun e w' => e = .returned (.int .i64 (-1)) ∧ w = w' := by
  by_cases h0 : zs.length = 0
  · rw [h0]
    clear hr hf
    go_enter Try.func64, Try.ntmps64
    go_wp2_with fail
    go_loop [8] (fun i => i = .int .i64 0) (fun i => 0)
    case atStart => exact rfl
    case round =>
      obtain rfl := hrel
      go_wp2_with fail
      go_ret
      exact ⟨rfl, rfl⟩
  · obtain ⟨b, off, rfl, _, hc⟩ := rdI_row hr (by omega)
    have HC := Lib.hid hc
    have HB := Lib.hid hB
    have H1 := Lib.hid hf
    clear hr hc hf hB
    go_enter Try.func64, Try.ntmps64
    go_wp2_with fail
    go_loop [8] (fun i => ∃ j : Nat, j ≤ zs.length ∧ i = .int .i64 j) (fun i => zs.length - (intOf i).toNat)
    case atStart => exact ⟨0, by omega, rfl⟩
    case round =>
      obtain ⟨j, hj, rfl⟩ := hrel
      by_cases h : j < zs.length
      · have c1 := HC.out j h
        have hd : decide (v < zat zs j) = false := decide_eq_false (by have := H1.out j h; omega)
        go_wp2_with (go_at_call 65; refine (above_any _ v B _ HB.out hv hv').mono ?_; rintro e w' ⟨rfl, rfl⟩; rw [hd])
        go_round
        case rel => exact ⟨j + 1, by omega, by go_num⟩
        case measure => simp [intOf]; omega
      · obtain rfl : j = zs.length := by omega
        go_wp2_with fail
        go_ret
        exact ⟨rfl, rfl⟩
set_option maxHeartbeats 1000000 in
theorem dof_any (A : Option Addr) (c k : Nat) (zs : List Int) (v : Int) (w : World) (hr : RdI w .u64 A zs) (hl : zs.length ≤ 1000) (hf : FirstAb zs v k) (hv : 0 ≤ v) (hv' : v ≤ 4294967295) :
    Calls Try.prog 36 #[.slice A zs.length c, .int .u32 v] w fun e w' => e = .returned (.int .i64 k) ∧ Below w.heap.size w w' := by
  have hb : Below w.heap.size w (w.alloc (.cells #[.int .u32 v] 50)) := (Below.refl _ _).alloc (Nat.le_refl _) _
  have hB : (w.alloc (.cells #[.int .u32 v] 50)).cell? ⟨w.heap.size, 0, none⟩ = some (.int .u32 v) := World.cell?_alloc_mark w _ _ _ 0
  by_cases hk : k < zs.length
  · obtain ⟨b, off, rfl, _⟩ := rdI_row hr (by omega)
    have H := Lib.hid (idx_found b off c k w.heap.size zs v _ (hr.kept hb) hl hk hf hB hv hv')
    have HB := Lib.hid hb
    clear hr hf hb hB
    go_enter Try.func36, Try.ntmps36
    go_wp2_with (go_at_call 64; refine H.out.mono ?_; rintro e w' ⟨rfl, rfl⟩)
    go_ret
    exact ⟨rfl, HB.out⟩
  · have e : k = zs.length := by have := hf.1; omega
    have H := Lib.hid (idx_none A c w.heap.size zs v _ (hr.kept hb) hl (fun j hj => hf.2.1 j (by omega)) hB hv hv')
    have HB := Lib.hid hb
    have E := Lib.hid e
    clear hr hf hb hB hk e
    go_enter Try.func36, Try.ntmps36
    go_wp2_with (go_at_call 64; refine H.out.mono ?_; rintro e w' ⟨rfl, rfl⟩)
    go_ret
    exact ⟨by rw [E.out]; rfl, HB.out⟩
theorem rd_ten (w : World) : RdI (w.alloc (.cells #[.int .u64 10, .int .u64 20] 31)) .u64 (some ⟨w.heap.size, 0, none⟩) [10, 20] := by
  apply rdI_mk
  intro i hi
  match i, hi with
  | 0, _ => exact ⟨World.cell?_alloc_mark w _ _ _ 0, rfl⟩
  | 1, _ => exact ⟨World.cell?_alloc_mark w _ _ _ 1, rfl⟩
theorem first10 : FirstAb [10, 20] 10 1 := by
  refine ⟨by decide, fun j hj => ?_, fun _ => by decide⟩
  obtain rfl : j = 0 := by omega
  decide
theorem first20 : FirstAb [10, 20] 20 2 := by
  refine ⟨by decide, fun j hj => ?_, fun h => absurd h (by decide)⟩
  rcases (show j = 0 ∨ j = 1 by omega) with rfl | rfl
  · decide
  · decide
set_option maxHeartbeats 1000000 in
theorem dralive (w : World) :
    Calls Try.prog 34 #[] w fun e w' => e = .returned (.bool true) ∧ Below w.heap.size w w' := by
  have F1 := Lib.hid first10
  have F2 := Lib.hid first20
  go_enter Try.func34, Try.ntmps34
  go_wp2_with fail
  refine (dof_any (some ⟨w.heap.size, 0, none⟩) 2 1 [10, 20] 10 _ (rd_ten w) (by decide) F1.out (by omega) (by omega)).mono ?_
  rintro e w1 ⟨rfl, hb1⟩
  have q1 : Below w.heap.size w w1 := ((Below.refl _ _).alloc (Nat.le_refl _) _).trans (hb1.mono (by simp))
  clear hb1
  go_wp2_with fail
  refine (dof_any (some ⟨w1.heap.size, 0, none⟩) 2 2 [10, 20] 20 _ (rd_ten w1) (by decide) F2.out (by omega) (by omega)).mono ?_
  rintro e w2 ⟨rfl, hb2⟩
  have q2 : Below w.heap.size w w2 := (q1.alloc q1.size _).trans (hb2.mono (by have := q1.size; simp; omega))
  clear hb2
  go_wp2_with fail
  go_ret
  exact ⟨rfl, q2⟩
set_option maxHeartbeats 1000000 in
theorem rmeans_any (A : Option Addr) (c k : Nat) (zs : List Int) (v : Int) (w : World) (hr : RdI w .u64 A zs) (hl : zs.length ≤ 1000) (hf : FirstAb zs v k) (hv : 0 ≤ v) (hv' : v ≤ 4294967295) :
    Calls Try.prog 35 #[.slice A zs.length c, .int .u32 v] w fun e w' => e = .returned (.int .i64 k) ∧ w = w' := by
  by_cases h0 : zs.length = 0
  · have e : k = 0 := by have := hf.1; omega
    subst e
    rw [h0]
    clear hr hf
    go_enter Try.func35, Try.ntmps35
    go_wp2_with fail
    go_loop [5] (fun i => i = .int .i64 0) (fun i => 0)
    case atStart => exact rfl
    case round =>
      obtain rfl := hrel
      go_wp2_with fail
      go_ret
      exact ⟨rfl, rfl⟩
  · obtain ⟨b, off, rfl, _, hc⟩ := rdI_row hr (by omega)
    have HC := Lib.hid hc
    have H1 := Lib.hid hf.2.1
    have H2 := Lib.hid hf.2.2
    have hk := hf.1
    clear hr hc hf
    go_enter Try.func35, Try.ntmps35
    go_wp2_with fail
    go_loop [5] (fun i => ∃ j : Nat, j ≤ k ∧ i = .int .i64 j) (fun i => zs.length - (intOf i).toNat)
    case atStart => exact ⟨0, by omega, rfl⟩
    case round =>
      obtain ⟨j, hj, rfl⟩ := hrel
      by_cases h : j < k
      · have hjl : j < zs.length := by omega
        have c1 := HC.out j hjl
        have hd := H1.out j h
        go_wp2_with fail
        go_round
        case rel => exact ⟨j + 1, by omega, by go_num⟩
        case measure => simp [intOf]; omega
      · obtain rfl : j = k := by omega
        by_cases hjl : j < zs.length
        · have c1 := HC.out j hjl
          have hd : ¬ zat zs j ≤ v := by have := H2.out hjl; omega
          go_wp2_with fail
          go_ret
          exact ⟨rfl, rfl⟩
        · go_wp2_with fail
          go_ret
          exact ⟨rfl, rfl⟩
end Go.Proofs.Ytkepplkfjcoemab
