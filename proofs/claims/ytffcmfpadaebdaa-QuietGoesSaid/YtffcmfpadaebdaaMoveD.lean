/- A row of riders, copied; where a car is behind a tick. -/
import Derived.Test.YtffcmfpadaebdaaFaceB
import Derived.Test.YtffcmfpadaebdaaCarM
import Derived.Test.YtffcmfpadaebdaaWantM
import Derived.Test.YtffcmfpadaebdaaRows
import Derived.Test.YtffcmfpadaebdaaKitM
import Derived.Test.YtffcmfpadaebdaaBitM
import Derived.Laws.AppendOwnNone
import Derived.WalkKit
import Derived.OwnWalk
import Derived.Laws.MakeOwn
import Derived.Laws.OwnMore
import Derived.Deep.LoopGhost
import Derived.IntWalk
import Derived.Lib.Hide
import Derived.WalkSpells
import Derived.WalkLawsBesides
import Derived.Laws.CopyOwn
import Derived.Deep.QuietTactic
import Derived.Deep.RegionHeld3
import Derived.BigQuiet
import Derived.BigRegion
import Derived.Test.YtffcmfpadaebdaaMoveB
import Derived.Test.YtffcmfpadaebdaaFaceC
import Derived.Test.YtffcmfpadaebdaaFaceD
import Derived.Test.YtffcmfpadaebdaaNearH
import Derived.Test.YtffcmfpadaebdaaPlaceA
import Derived.Test.YtffcmfpadaebdaaMoveMath
import Derived.Test.YtffcmfpadaebdaaMoveC
import Derived.Maps.AppendAt
namespace Go.Proofs.Ytffcmfpadaebdaa
open Go.RowKit
set_option linter.unusedSimpArgs false
set_option linter.unusedVariables false
theorem riderInfo : (Try.prog.info? 53).map (fun i => (i.zero, i.size, i.bytes)) = some (some (.agg #[.int .i64 0, .int .i64 0]), 2, 16) := by kernel_rfl
theorem ownM_zero (w : World) (e : TypeId) (m : Nat) : (w.alloc (.cells #[] e)).ownsRow w.heap.size e m (.slice (some ⟨w.heap.size, 0, none⟩) 0 0) 0 [] :=
  ⟨by simp, Or.inr ⟨w.heap.size, 0, #[], rfl, Nat.le_refl _, heap_alloc_last w _, Nat.le_refl _, by decide, by simp, by simp⟩⟩
theorem rdZ_news {w : World} {m n : Nat} {a : Addr} {z : Nat → Nat → Int} (hm : 0 < m) (h : RdZ w m (some a) n z) (o : Obj) : ∀ j u, (rowM m z n)[j]? = some u → (w.alloc o).cell? (a.add j) = some u := by
  intro j u hu
  have hj : j < n * m := by
    rw [← rowM_len m z n]
    rcases Nat.lt_or_ge j (rowM m z n).length with h | h
    · exact h
    · rw [List.getElem?_eq_none h] at hu; cases hu
  have h1 : j / m < n := by rw [Nat.div_lt_iff_lt_mul hm]; exact hj
  have h2 : j % m < m := Nat.mod_lt _ hm
  have e : j / m * m + j % m = j := by rw [Nat.mul_comm]; exact Nat.div_add_mod j m
  obtain ⟨a', ea, hlt, hc⟩ := h (j / m) h1
  cases ea
  have g := (hc (j % m) h2).1
  rw [e] at g
  have := rowM_get (z := z) h1 h2
  rw [e, hu] at this
  rw [this, ← g]
  exact ((Below.refl w.heap.size w).alloc (Nat.le_refl _) o).cell (p := a.add j) (by rw [block_add]; exact hlt)
theorem rowM_cells (m : Nat) (z : Nat → Nat → Int) (n : Nat) : ∀ u ∈ rowM m z n, u.oneCell' = true := by
  intro u hu
  obtain ⟨x, _, rfl⟩ := List.mem_map.1 hu
  rfl
theorem rdZ_far {w : World} {m n : Nat} {A : Option Addr} {z : Nat → Nat → Int} (h : RdZ w m A n z) {p : Addr} (hp : ∀ a, A = some a → a.block ≠ p.block) (u : Value) : RdZ (w.setCell p u) m A n z := fun i hi => by
  obtain ⟨a, e, hlt, hc⟩ := h i hi
  refine ⟨a, e, by simpa [World.setCell] using hlt, fun j hj => ⟨?_, (hc j hj).2⟩⟩
  rw [World.cell?_of_block (Below.heap_setCell _ _ _ _ (by rw [block_add]; exact hp a e))]
  exact (hc j hj).1
theorem rdZ_drew {w : World} {m n : Nat} {A : Option Addr} {z : Nat → Nat → Int} (h : RdZ w m A n z) : RdZ w.drew m A n z := h
/-- a row of riders, copied -/
def ClR (n : Nat) (z : Nat → Nat → Int) (w : World) (e : Ending) (w' : World) : Prop := ∃ A c, e = .returned (.slice A n c) ∧ RdZ w' 2 A n z ∧ (∀ a, A = some a → w.heap.size ≤ a.block) ∧ (n ≤ c ∧ c ≤ maxLen) ∧ Below w.heap.size w w'
set_option maxRecDepth 100000 in
set_option maxHeartbeats 1000000 in
theorem clone_riders (A : Option Addr) (n c : Nat) (z : Nat → Nat → Int) (w : World) (hr : RdZ w 2 A n z) (hn : n ≤ 100000) :
    Calls Try.prog 23 #[.slice A n c] w (ClR n z w) := by
  obtain ⟨i0, hi, hz0, hz1, hz2⟩ := info_parts riderInfo
  have hwf : ∀ i j, i < n → j < 2 → (Lit.int .i64 (z i j)).wf = true := fun i j hi hj => by
    obtain ⟨a, _, _, hc⟩ := hr i hi
    exact (hc j hj).2
  have hq : ∀ w, (binOp .eql 27 (.slice A n c) (.slice none 0 0)).run Try.prog w = .ok (.bool A.isNone) w := fun w => Lib.run_eql_slice_nil w _ _ A n c 0 0 Try.underlying27
  rcases A with _ | a
  · have hn0 : n = 0 := by
      rcases Nat.eq_zero_or_pos n with h | h
      · exact h
      · obtain ⟨a, e, _⟩ := hr 0 h; cases e
    subst hn0
    clear hr hwf
    simp only [Option.isNone_none] at hq
    go_enter Try.func23, Try.ntmps23
    go_wp2_with fail
    go_ret
    refine ⟨none, 0, rfl, ?_, ?_, ⟨Nat.le_refl _, by unfold maxLen; omega⟩, Below.refl _ _⟩
    · intro i hi; exact absurd hi (by omega)
    · intro a h; cases h
  · have HN := Lib.hid (rdZ_news (by decide) hr)
    have WF := Lib.hid hwf
    clear hr hwf
    simp only [Option.isNone_some] at hq
    have hown0 := ownM_zero w 53 2
    go_enter Try.func23, Try.ntmps23
    go_wp2_with (at_builtin; refine wpList_append_own _ rfl _ _ 27 rfl w.heap.size 53 i0 (.agg #[.int .i64 0, .int .i64 0]) 2 16 Try.underlying27 hi hz0 hz1 hz2 rfl (by decide) _ _ _ rfl hown0 a n c (rowM 2 z n) rfl (by rw [rowM_len]) (HN.out _) (rowM_cells 2 z n) (by unfold maxLen; simp; omega) (by simp; omega) (by simp) ?_; intro v' w1 hown' hgrow _)
    have hb1 : RowKit.Below w.heap.size w w1 := by
      refine ((RowKit.Below.refl _ _).alloc (Nat.le_refl _) _).grown hgrow (by simp) (fun g hg => ?_)
      first | exact ownR_ge hown0 hg | exact ownR_ge hown0 hg.symm
    rw [List.nil_append, Nat.zero_add] at hown'
    obtain ⟨A', c', rfl, h1, h2, hR⟩ := ownM_rd hown' WF.out
    have HG : ∀ a, A' = some a → w.heap.size ≤ a.block := fun a ha => by
      subst ha
      rcases hown'.2 with ⟨h, _⟩ | ⟨g, cap, cur, h, hg, _⟩
      · cases h
      · cases h; exact hg
    clear hown' hgrow hown0
    go_wp2_with fail
    go_ret
    exact ⟨A', c', rfl, hR, HG, ⟨h1, h2⟩, hb1⟩
/-- where a car is, which way it goes, what it does, for how long, behind a tick: r: how far it is past a floor; st: does it stop there; o: which way it faces there -/
def stp (r : Int) (st : Bool) (o p d md le op : Int) : Nat → Int
  | 0 => if r = 0 then (if st then p else p + o) else p + d
  | 1 => if r = 0 then o else d
  | 2 => if r = 0 then (if st then 2 else if o = 0 then 0 else 1) else md
  | _ => if r = 0 then (if st then op else le) else le
theorem ofWay_bd (W U D : Nat → Bool) (f d : Int) (d0 : -1 ≤ d) (d1 : d ≤ 1) : -1 ≤ ofWay W U D f d ∧ ofWay W U D f d ≤ 1 := by
  unfold ofWay bgF othF
  repeat' split
  all_goals omega
end Go.Proofs.Ytffcmfpadaebdaa
