/- span.Merge of nothing; the two Rights at any row. -/
import Derived.Test.YtiinlidilkdfbaaSpanU
import Derived.Test.YtiinlidilkdfbaaSpanK
import Derived.Test.YtiinlidilkdfbaaAtKit
import Derived.Test.YtiinlidilkdfbaaSpanF
import Derived.WalkKit
import Derived.IntWalk
import Derived.Lib.Hide
import Derived.WalkSpells
import Derived.WalkLawsBesides
import Derived.Laws.CopyOwn
import Derived.Laws.MakeOwn
import Derived.Laws.OwnMore
import Derived.Laws.AppendOwnNone
import Derived.OwnWalk
import Derived.BigRegion
import Derived.Deep.LoopGhost
import Derived.Deep.RegionHeld3
import Derived.Deep.QuietTactic
import Derived.BigQuiet
namespace Go.Proofs.Ytiinlidilkdfbaa
open Go.RowKit
set_option linter.unusedVariables false
set_option linter.unusedSimpArgs false
set_option maxHeartbeats 8000000 in
theorem clone_none (A : Option Addr) (c : Nat) (w : World) (hn : A = none → c = 0) :
    Calls Try.prog 25 #[.slice A 0 c] w fun e w' => ∃ A' c', e = .returned (.slice A' 0 c') ∧ (A' = none → c' = 0) ∧ Below w.heap.size w w' := by
  rcases A with _ | A
  · obtain rfl : c = 0 := hn rfl
    have hnil : ∀ w, (binOp .eql 22 (.slice none 0 0) (.slice none 0 0)).run Try.prog w = .ok (.bool true) w := fun w => Lib.run_eql_slice_nil w 22 26 none 0 0 0 0 Try.underlying22
    go_enter Try.func25, Try.ntmps25
    go_wp2_with fail
    go_ret
    exact ⟨none, 0, rfl, fun _ => rfl, Below.refl _ _⟩
  · have hnil : ∀ w, (binOp .eql 22 (.slice (some A) 0 c) (.slice none 0 0)).run Try.prog w = .ok (.bool false) w := fun w => Lib.run_eql_slice_nil w 22 26 (some A) 0 c 0 0 Try.underlying22
    have ha0 : Below w.heap.size w (w.alloc (.cells #[] 26)) := (Below.refl w.heap.size w).alloc (Nat.le_refl _) _
    go_enter Try.func25, Try.ntmps25
    go_wp2_with (at_builtin; refine append_spans rfl _ _ rfl w.heap.size _ 0 [] rfl (own0S w) (some A) 0 c (zS []) rfl (fun i hi => absurd hi (by omega)) (by omega) (fun e => by cases e) (by omega) (by simp) ?_; intro v1 w1 o1 q1)
    obtain ⟨g, cap, rfl⟩ := ownM_slice o1
    have hcap : g = none → cap = 0 := fun e => by
      subst e
      rcases o1.2 with ⟨h, _⟩ | ⟨_, _, _, h, _⟩
      · simp only [Value.slice.injEq] at h; exact h.2.2
      · cases h
    have HC := Lib.hid hcap
    clear hcap o1
    go_wp2_with fail
    go_ret
    exact ⟨g, cap, rfl, HC.out, ha0.trans q1⟩
theorem idx_none (A : Option Addr) (c : Nat) (w : World) :
    Calls Try.prog 40 #[.slice A 0 c, .func (.func 26) #[] #[]] w fun e w' => e = .returned (.int .i64 (-1)) ∧ w' = w := by
  go_enter Try.func40, Try.ntmps40
  go_wp2_with fail
  go_loop [8] (fun i => i = .int .i64 0) (fun i => 0)
  case atStart => exact rfl
  case round =>
    obtain rfl := hrel
    go_wp2_with fail
    go_ret
    exact ⟨rfl, rfl⟩
theorem del_none (A : Option Addr) (c : Nat) (w : World) :
    Calls Try.prog 24 #[.slice A 0 c, .func (.func 26) #[] #[]] w fun e w' => e = .returned (.slice A 0 c) ∧ w' = w := by
  have K := Lib.hid (idx_none A c w)
  go_enter Try.func24, Try.ntmps24
  go_wp2_with fail
  refine K.out.mono ?_
  rintro e w1 ⟨rfl, rfl⟩
  go_wp2_with fail
  go_ret
  exact ⟨rfl, rfl⟩
theorem sort_none (A : Option Addr) (c : Nat) (w : World) :
    Calls Try.prog 27 #[.slice A 0 c, .func (.func 28) #[] #[]] w fun e w' => e = .returned (.tuple #[]) ∧ w' = w := by
  have h := AnyF.slices_SortFunc_none (P := Try.prog) (ρ := Try.sortSpan_ren) Try.sortSpan A c (.func (.func 28) #[] #[]) w
  exact h
set_option maxHeartbeats 8000000 in
theorem merge_none (A : Option Addr) (c : Nat) (w : World) (hn : A = none → c = 0) : Calls Try.prog 6 #[.slice A 0 c] w (MerR [] w) := by
  have KC := Lib.hid (clone_none A c w hn)
  have KD := Lib.hid del_none
  have KS := Lib.hid sort_none
  clear hn
  go_enter Try.func6, Try.ntmps6
  go_wp2_with fail
  refine KC.out.mono ?_
  rintro e w1 ⟨A1, c1, rfl, _, hb⟩
  have HB := Lib.hid hb
  clear hb
  go_wp2_with fail
  refine (KD.out _ _ _).mono ?_
  rintro e w2 ⟨rfl, rfl⟩
  go_wp2_with fail
  refine (KS.out _ _ _).mono ?_
  rintro e w3 ⟨rfl, rfl⟩
  go_wp2_with fail
  go_loop [4, 15] (fun rv i => rv = .slice none 0 0 ∧ i = .int .i64 0) (fun _ _ => 0)
  case atStart => exact ⟨rfl, rfl⟩
  case round =>
    obtain ⟨rfl, rfl⟩ := hrel
    go_wp2_with fail
    go_ret
    exact ⟨_, [], rfl, isS_nil _, trivial, fun n => rfl, Nat.le_refl _, HB.out⟩
/-- is a span of a row right, beside the one ahead? -/
def okB (L : List (Int × Int)) (i : Nat) : Bool := decide (zS L i 0 < zS L i 1) && (decide (i = 0) || decide (zS L (i - 1) 1 < zS L i 0))
def rgB (L : List (Int × Int)) : Bool := (List.range L.length).all (okB L)
theorem rg_no {L : List (Int × Int)} {i : Nat} (hi : i < L.length) (h : okB L i = false) : rgB L = false := by
  unfold rgB
  rw [List.all_eq_false]
  exact ⟨i, List.mem_range.2 hi, by simp [h]⟩
theorem rg_yes {L : List (Int × Int)} (h : ∀ i, i < L.length → okB L i = true) : rgB L = true := by
  unfold rgB
  rw [List.all_eq_true]
  exact fun i hi => h i (List.mem_range.1 hi)
theorem rg_right {L : List (Int × Int)} {lo : Int} (h : RtL lo L) : rgB L = true := rg_yes fun i hi => by
  obtain ⟨r1, r2⟩ := rt_at L lo h
  have h1 := (r1 i hi).2
  unfold okB
  by_cases e : i = 0
  · simp [h1, e]
    subst e; exact h1
  · have := r2 (i - 1) i (by omega) hi
    simp [h1, this]
end Go.Proofs.Ytiinlidilkdfbaa
