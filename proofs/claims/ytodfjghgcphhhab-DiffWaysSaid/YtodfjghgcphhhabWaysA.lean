/- Legs: rows behind each other: slices.Grow, slices.Concat. -/
import Derived.Test.YtodfjghgcphhhabRows
import Derived.Test.YtodfjghgcphhhabRowKit
import Derived.Test.YtodfjghgcphhhabRowS
import Derived.Test.YtodfjghgcphhhabRowZ
import Derived.Test.YtodfjghgcphhhabRowV
import Derived.Test.YtodfjghgcphhhabRowW
import Derived.Test.YtodfjghgcphhhabSlicesEq
import Derived.Test.YtodfjghgcphhhabBlocks
import Derived.Test.YtodfjghgcphhhabAtKit
import Derived.Test.YtodfjghgcphhhabGanttMath
import Derived.Test.YtodfjghgcphhhabTrackA
import Derived.WalkKit
import Derived.IntWalk
import Derived.Lib.Hide
import Derived.WalkSpells
import Derived.WalkLawsBesides
import Derived.OwnWalk
import Derived.Deep.QuietTactic
import Derived.BigQuiet
import Derived.Deep.RegionHeld3
import Derived.Deep.LoopGhost
import Derived.BigRegion
import Derived.Below
import Derived.Test.YtodfjghgcphhhabRowL
import Derived.Test.YtodfjghgcphhhabMakeI
import Derived.Test.YtodfjghgcphhhabWaysMath
import Derived.Laws.CopyOwn
import Derived.Laws.MakeOwn
import Derived.Laws.OwnMore
import Derived.Laws.AppendOwnNone
import Derived.Lib.AppendZeros
namespace Go.Proofs.Ytodfjghgcphhhab
open Go.RowKit
set_option linter.unusedSimpArgs false
set_option linter.unusedVariables false
/-- a row of values, told by a function -/
def rowG (f : Nat → Value) (k : Nat) : List Value := (List.range k).map f
theorem rowG_len (f : Nat → Value) (k : Nat) : (rowG f k).length = k := by simp [rowG]
theorem rowG_get {f : Nat → Value} {k j : Nat} (h : j < k) : (rowG f k)[j]? = some (f j) := by simp [rowG, h]
theorem rowG_none {f : Nat → Value} {k j : Nat} (h : ¬ j < k) : (rowG f k)[j]? = none := List.getElem?_eq_none (by rw [rowG_len]; omega)
theorem rowG_cat {f g h : Nat → Value} {k l : Nat} (h1 : ∀ j, j < k → f j = h j) (h2 : ∀ j, j < l → g j = h (k + j)) : rowG f k ++ rowG g l = rowG h (k + l) := by
  refine List.ext_getElem? fun j => ?_
  by_cases a : j < k
  · rw [List.getElem?_append_left (by rw [rowG_len]; exact a), rowG_get a, rowG_get (by omega), h1 j a]
  · rw [List.getElem?_append_right (by rw [rowG_len]; omega), rowG_len]
    by_cases b : j < k + l
    · rw [rowG_get (show j - k < l by omega), rowG_get b, h2 (j - k) (by omega)]
      congr 2; omega
    · rw [rowG_none (by omega), rowG_none b]
def legC (T P D : Nat → Int) (O : Nat → Bool) (j : Nat) : Value := legV T P D O (j / 4) (j % 4)
theorem legC_one (T P D : Nat → Int) (O : Nat → Bool) (k : Nat) : ∀ u ∈ rowG (legC T P D O) k, u.oneCell' = true := by
  intro u hu
  unfold rowG at hu
  obtain ⟨j, _, rfl⟩ := List.mem_map.1 hu
  unfold legC legV
  split
  · rfl
  · split
    · rfl
    · split <;> rfl
theorem legC_cat {T P D : Nat → Int} {O : Nat → Bool} {T' P' D' : Nat → Int} {O' : Nat → Bool} {n m : Nat} :
    rowG (legC T P D O) (n * 4) ++ rowG (legC T' P' D' O') (m * 4) = rowG (legC (catI T T' n) (catI P P' n) (catI D D' n) (catB O O' n)) ((n + m) * 4) := by
  rw [Nat.add_mul]
  refine rowG_cat (fun j hj => ?_) (fun j hj => ?_)
  · have h1 : j / 4 < n := by omega
    simp only [legC, legV, catI, catB, if_pos h1]
  · have h1 : ¬ (n * 4 + j) / 4 < n := by omega
    have h2 : (n * 4 + j) / 4 - n = j / 4 := by omega
    have h3 : (n * 4 + j) % 4 = j % 4 := by omega
    simp only [legC, legV, catI, catB, if_neg h1, h2, h3]
theorem legInfo : (Try.prog.info? 62).map (fun i => (i.zero, i.size, i.bytes)) = some (some (.agg #[.int .i64 0, .int .i64 0, .int .i64 0, .bool false]), 4, 32) := by kernel_rfl
theorem rdL_news {w : World} {a : Addr} {n : Nat} {T P D : Nat → Int} {O : Nat → Bool} (h : RdL w (some a) n T P D O) : ∀ j u, (rowG (legC T P D O) (n * 4))[j]? = some u → w.cell? (a.add j) = some u := by
  intro j u hu
  by_cases hj : j < n * 4
  · rw [rowG_get hj] at hu
    obtain ⟨a', ea, _, hc⟩ := h (j / 4) (by omega)
    cases ea
    have := (hc (j % 4) (by omega)).1
    have e : j / 4 * 4 + j % 4 = j := by omega
    rw [e] at this
    rw [this, ← hu]; rfl
  · rw [rowG_none hj] at hu; cases hu
/-- append of legs that lie somewhere to a row that the call made -/
theorem append_legs {w : World} {ops : Array Oper} {rest : List Oper} {o : Oper} {a : Act} {Q : Exit → Act → World → Prop} (hgd : o.guard = none) (s x : Operand)
    (ho : o.op = .call { callee := .builtin .append, args := #[s, x], argTypes := #[22, 22] }) (base : Nat) (v : Value) (n : Nat) (xs : List Value) (hs : a.eval s = v) (hown : w.ownsRow base 62 4 v n xs)
    (A : Option Addr) (m c : Nat) (T P D : Nat → Int) (O : Nat → Bool) (hx : a.eval x = .slice A m c) (hr : RdL w A m T P D O) (hc : m ≤ c) (hn : A = none → c = 0) (hsm : n + m ≤ 100000) (hbase : base ≤ w.heap.size)
    (h : ∀ v' w', w'.ownsRow base 62 4 v' (n + m) (xs ++ rowG (legC T P D O) (m * 4)) → Below base w w' → wpList Try.prog ops Q rest (a.put o.dst v') w') : wpList Try.prog ops Q (o :: rest) a w := by
  obtain ⟨i0, hi, hz0, hz1, hz2⟩ := info_parts legInfo
  cases A with
  | none =>
    obtain rfl : c = 0 := hn rfl
    obtain rfl : m = 0 := by omega
    refine wpList_append_own_none hgd s x _ ho base 62 i0 4 Try.underlying22 hi v n xs hs hown hx ?_
    exact h v w (by simpa [rowG] using hown) (Below.refl _ _)
  | some ad =>
    refine wpList_append_own w hgd s x _ ho base 62 i0 (.agg #[.int .i64 0, .int .i64 0, .int .i64 0, .bool false]) 4 32 Try.underlying22 hi hz0 hz1 hz2 rfl (by decide) v n xs hs hown ad m c (rowG (legC T P D O) (m * 4)) hx (rowG_len ..) (rdL_news hr) (fun u hu => legC_one T P D O (m * 4) u hu) (by unfold maxLen; omega) (by omega) hbase ?_
    intro v' w' h1 h2 _
    exact h v' w' h1 ((Below.refl base w).grown h2 hbase (fun g hg => by first | exact ownR_ge hown hg | exact ownR_ge hown hg.symm))
theorem own_rdL {w : World} {base k : Nat} {v : Value} {T P D : Nat → Int} {O : Nat → Bool} (h : w.ownsRow base 62 4 v k (rowG (legC T P D O) (k * 4)))
    (hwf : ∀ i, i < k → (-9223372036854775808 ≤ T i ∧ T i ≤ 9223372036854775807) ∧ (-9223372036854775808 ≤ P i ∧ P i ≤ 9223372036854775807) ∧ (-9223372036854775808 ≤ D i ∧ D i ≤ 9223372036854775807)) :
    ∃ A c, v = .slice A k c ∧ RdL w A k T P D O ∧ ∀ a, A = some a → base ≤ a.block := by
  have wf : ∀ x : Int, -9223372036854775808 ≤ x ∧ x ≤ 9223372036854775807 → (Lit.int .i64 x).wf = true := by
    intro x hx
    have e1 : IntKind.i64.min = -9223372036854775808 := by decide
    have e2 : IntKind.i64.max = 9223372036854775807 := by decide
    show (decide (IntKind.i64.min ≤ x) && decide (x ≤ IntKind.i64.max)) = true
    rw [e1, e2]
    simp [hx.1, hx.2]
  rcases h.2 with ⟨rfl, hn⟩ | ⟨g, cap, cur, rfl, hg, hh, hnc, _, hcs, htake⟩
  · exact ⟨none, 0, by rw [hn], fun i hi => absurd hi (by omega), fun a h => by cases h⟩
  · refine ⟨some ⟨g, 0, none⟩, cap, rfl, fun i hi => ⟨_, rfl, ?_, fun j hj => ?_⟩, fun a h => by cases h; exact hg⟩
    · rcases Nat.lt_or_ge g w.heap.size with h1 | h1
      · exact h1
      · rw [Array.getElem?_eq_none h1] at hh; cases hh
    · have hcl := h.cells (g := g) rfl (i * 4 + j) (legC T P D O (i * 4 + j)) (rowG_get (by omega))
      have e : legC T P D O (i * 4 + j) = legV T P D O i j := by
        unfold legC
        rw [show (i * 4 + j) / 4 = i by omega, show (i * 4 + j) % 4 = j by omega]
      rw [e] at hcl
      refine ⟨?_, ?_⟩
      · by_cases h0 : i * 4 + j = 0
        · rw [h0] at hcl ⊢; simpa [Addr.add] using hcl
        · simpa [Addr.add, h0] using hcl
      · obtain ⟨w0, w1, w2⟩ := hwf i hi
        rcases j with _ | _ | _ | _ | j
        · exact ⟨_, rfl, wf _ w0⟩
        · exact ⟨_, rfl, wf _ w1⟩
        · exact ⟨_, rfl, wf _ w2⟩
        · exact ⟨_, rfl⟩
        · omega
/-- a row of legs that has none yet -/
def NewL (w : World) (e : Ending) (w' : World) : Prop := ∃ v, e = .returned v ∧ w'.ownsRow w.heap.size 62 4 v 0 [] ∧ Below w.heap.size w w'
set_option maxRecDepth 100000 in
set_option maxHeartbeats 4000000 in
theorem grow_any (N : Nat) (w : World) (hN : N ≤ 100000) : Calls Try.prog 35 #[.slice none 0 0, .int .i64 N] w (NewL w) := by
  obtain ⟨i0, hi, hz0, hz1, hz2⟩ := info_parts legInfo
  by_cases h0 : N = 0
  · subst h0
    have HE : Hid (NewL w (.returned (.slice none 0 0)) w) := Lib.hid ⟨_, rfl, ⟨rfl, Or.inl ⟨rfl, rfl⟩⟩, Below.refl _ _⟩
    go_enter Try.func35, Try.ntmps35
    go_wp2_with fail
    go_ret
    exact HE.out
  · have hg := grownCap_ge w N 0 62
    have hm : grownCap w N 0 62 ≤ maxLen := grownCap_le_maxLen w N 0 62 (by unfold maxLen; omega)
    obtain ⟨cp, hcp⟩ : ∃ q, grownCap w N 0 62 = q := ⟨_, rfl⟩
    rw [hcp] at hg hm
    have hr := fun W (hW : W = w) ty => Lib.run_append_nil_zeros (P := Try.prog) W 22 3 ty 62 i0 _ .i64 .i64 Try.underlying22 Try.underlying3 hi hz0 N (by omega) (by omega) (by omega) (by rw [hz2]; omega)
    have n1 : ¬ ((N : Int) < 0) := by omega
    have n2 : (0 : Int) < (N : Int) := by omega
    have w1 : IntKind.i64.wrap (N : Int) = N := IntWalk.i64_in _ (by omega)
    have HE : Hid (∀ W', W' = w.drew.alloc (.cells (Builtin.zeroCells (Value.agg #[.int .i64 0, .int .i64 0, .int .i64 0, .bool false]).cells N ++ Builtin.zeroCells (Value.agg #[.int .i64 0, .int .i64 0, .int .i64 0, .bool false]).cells (cp - N)) 62) → NewL w (.returned (.slice (some ⟨w.heap.size, 0, none⟩) 0 cp)) W') := Lib.hid (by
      rintro W' rfl
      refine ⟨_, rfl, ⟨rfl, Or.inr ⟨w.heap.size, cp, _, rfl, Nat.le_refl _, heap_alloc_new w.drew _, by omega, hm, ?_, by simp⟩⟩, (Below.refl w.heap.size w).drew.alloc (Nat.le_refl _) _⟩
      simp only [Array.size_append, size_zeroCells]
      show N * 4 + (cp - N) * 4 = cp * 4
      omega)
    go_enter Try.func35, Try.ntmps35
    go_wp2_with (at_builtin; refine Lib.wpList_append_run _ rfl _ _ 22 3 rfl (.slice none 0 0) (.int .i64 N) rfl rfl _ _ (hr _ rfl _) ?_)
    go_ret
    exact HE.out _ rfl
/-- two rows of legs behind each other, as they lie -/
def CatR (n m : Nat) (T P D : Nat → Int) (O : Nat → Bool) (w : World) (e : Ending) (w' : World) : Prop := ∃ A c, e = .returned (.slice A (n + m) c) ∧ RdL w' A (n + m) T P D O ∧ (∀ a, A = some a → w.heap.size ≤ a.block) ∧ Below w.heap.size w w'
set_option maxRecDepth 100000 in
set_option maxHeartbeats 8000000 in
theorem concat_any (A B : Option Addr) (c d n m : Nat) (T P D : Nat → Int) (O : Nat → Bool) (T' P' D' : Nat → Int) (O' : Nat → Bool) (g : Nat) (w : World) (ha : RdL w A n T P D O) (hb : RdL w B m T' P' D' O') (hn : n ≤ 60) (hm : m ≤ 60)
    (a1 : n ≤ c) (a2 : A = none → c = 0) (b1 : m ≤ d) (b2 : B = none → d = 0) (hX : Blk w g 22 #[.slice A n c, .slice B m d]) :
    Calls Try.prog 25 #[.slice (some ⟨g, 0, none⟩) 2 2] w (CatR n m (catI T T' n) (catI P P' n) (catI D D' n) (catB O O' n) w) := by
  have HA := Lib.hid ha; have HB := Lib.hid hb; have HX := Lib.hid hX
  have HWF : Hid (∀ i, i < n + m → (-9223372036854775808 ≤ catI T T' n i ∧ catI T T' n i ≤ 9223372036854775807) ∧ (-9223372036854775808 ≤ catI P P' n i ∧ catI P P' n i ≤ 9223372036854775807) ∧ (-9223372036854775808 ≤ catI D D' n i ∧ catI D D' n i ≤ 9223372036854775807)) := Lib.hid fun i hi => by
    unfold catI
    by_cases h : i < n
    · rw [if_pos h, if_pos h, if_pos h]; exact rdL_wf ha h
    · rw [if_neg h, if_neg h, if_neg h]; exact rdL_wf hb (by omega)
  have HF : Hid (∀ v w', w'.ownsRow w.heap.size 62 4 v (n + m) (rowG (legC T P D O) (n * 4) ++ rowG (legC T' P' D' O') (m * 4)) → Below w.heap.size w w' → CatR n m (catI T T' n) (catI P P' n) (catI D D' n) (catB O O' n) w (.returned v) w') := Lib.hid fun v w' hown hbel => by
    rw [legC_cat] at hown
    obtain ⟨A', c', rfl, hr, hk⟩ := own_rdL hown HWF.out
    exact ⟨A', c', rfl, hr, hk, hbel⟩
  obtain ⟨RES, hRES⟩ : ∃ Q, CatR n m (catI T T' n) (catI P P' n) (catI D D' n) (catB O O' n) w = Q := ⟨_, rfl⟩
  rw [hRES] at HF ⊢
  have A2 := Lib.hid a2; have B2 := Lib.hid b2
  have x0 : w.cell? ⟨g, 0, none⟩ = some (.slice A n c) := hX.cell 0
  have x1 : w.cell? ⟨g, 1, none⟩ = some (.slice B m d) := hX.cell 1
  have w1 : IntKind.i64.wrap (n : Int) = n := IntWalk.i64_in _ (by omega)
  have w2 : IntKind.i64.wrap ((n : Int) + m) = n + m := IntWalk.i64_in _ (by omega)
  clear ha hb hX hRES HWF a2 b2
  go_enter Try.func25, Try.ntmps25
  go_wp2_with fail
  go_loopw [3, 11] (fun s i wr => wr = w ∧ ((s = .int .i64 0 ∧ i = .int .i64 0) ∨ (s = .int .i64 n ∧ i = .int .i64 1) ∨ (s = .int .i64 (n + m) ∧ i = .int .i64 2))) (fun _ i _ => 2 - (intOf i).toNat)
  case atStart => exact ⟨rfl, .inl ⟨rfl, rfl⟩⟩
  case round =>
    obtain ⟨hw, ⟨rfl, rfl⟩ | ⟨rfl, rfl⟩ | ⟨rfl, rfl⟩⟩ := hrel
    all_goals (have hw' := hw.symm; clear hw; subst hw')
    · have n1 : ¬ ((n : Int) < 0) := by omega
      go_wp2_with fail
      go_roundw
      case rel => exact ⟨trivial, .inr (.inl ⟨rfl, rfl⟩)⟩
      case measure => simp [intOf]
    · have n1 : ¬ ((n : Int) + m < 0) := by omega
      go_wp2_with fail
      go_roundw
      case rel => exact ⟨trivial, .inr (.inr ⟨rfl, rfl⟩)⟩
      case measure => simp [intOf]
    · have KG := Lib.hid (grow_any (n + m) w (by omega))
      rw [Int.natCast_add] at KG
      go_wp2_with fail
      refine KG.out.mono ?_
      rintro e w3 ⟨v0, rfl, hown0, hb0⟩
      have O0 := Lib.hid hown0; have E0 := Lib.hid hb0
      have X3 := Lib.hid (HX.out.next hb0)
      have HA3 := Lib.hid (HA.out.kept hb0); have HB3 := Lib.hid (HB.out.kept hb0)
      clear hown0 hb0 x0 x1
      go_wp2_with fail
      go_loopw [6, 27] (fun s i wr => Below w.heap.size w wr ∧ ((i = .int .i64 0 ∧ wr.ownsRow w.heap.size 62 4 s 0 []) ∨ (i = .int .i64 1 ∧ wr.ownsRow w.heap.size 62 4 s n (rowG (legC T P D O) (n * 4))) ∨ (i = .int .i64 2 ∧ wr.ownsRow w.heap.size 62 4 s (n + m) (rowG (legC T P D O) (n * 4) ++ rowG (legC T' P' D' O') (m * 4))))) (fun _ i _ => 2 - (intOf i).toNat)
      case atStart => exact ⟨E0.out, .inl ⟨rfl, O0.out⟩⟩
      case round =>
        obtain ⟨hbt, ⟨rfl, hown⟩ | ⟨rfl, hown⟩ | ⟨rfl, hown⟩⟩ := hrel
        · have x0 : wr.cell? ⟨g, 0, none⟩ = some (.slice A n c) := (HX.out.next hbt).cell 0
          have EB := Lib.hid hbt; have OW := Lib.hid hown
          clear hbt hown
          go_wp2_with (at_builtin; refine append_legs rfl _ _ rfl w.heap.size _ 0 [] rfl OW.out A n c T P D O rfl (HA.out.kept EB.out) a1 A2.out (by omega) EB.out.size ?_; intro v' w4 h1 h2)
          have h3 : w4.ownsRow w.heap.size 62 4 v' n (rowG (legC T P D O) (n * 4)) := by simpa using h1
          have h4 := EB.out.trans h2
          clear h1 h2
          go_wp2_with fail
          go_roundw
          case rel => exact ⟨h4, .inr (.inl ⟨rfl, h3⟩)⟩
          case measure => simp [intOf]
        · have x1 : wr.cell? ⟨g, 1, none⟩ = some (.slice B m d) := (HX.out.next hbt).cell 1
          have EB := Lib.hid hbt; have OW := Lib.hid hown
          clear hbt hown
          go_wp2_with (at_builtin; refine append_legs rfl _ _ rfl w.heap.size _ n _ rfl OW.out B m d T' P' D' O' rfl (HB.out.kept EB.out) b1 B2.out (by omega) EB.out.size ?_; intro v' w4 h1 h2)
          have h4 := EB.out.trans h2
          clear h2
          go_wp2_with fail
          go_roundw
          case rel => exact ⟨h4, .inr (.inr ⟨rfl, h1⟩)⟩
          case measure => simp [intOf]
        · have EB := Lib.hid hbt; have OW := Lib.hid hown
          clear hbt hown
          go_wp2_with fail
          exact HF.out _ _ OW.out EB.out
end Go.Proofs.Ytodfjghgcphhhab
