/- A heap of entries: the chapter's example; slices.Equal at entries. -/
import Derived.Test.YtobeppajomhfjaaHeapQ
import Derived.Test.YtobeppajomhfjaaHeapI
import Derived.WalkKit
import Derived.IntWalk
import Derived.Lib.Hide
import Derived.WalkSpells
import Derived.WalkLawsBesides
import Derived.OwnWalk
import Derived.BigRegion
import Derived.Deep.LoopGhost
import Derived.Deep.RegionHeld3
import Derived.Deep.QuietTactic
import Derived.BigQuiet
import Derived.Laws.CopyOwn
import Derived.Laws.MakeOwn
import Derived.Laws.OwnMore
import Derived.Laws.AppendOwnNone
namespace Go.Proofs.Ytobeppajomhfjaa
open Go.RowKit
set_option linter.unusedVariables false
set_option linter.unusedSimpArgs false
theorem hp_below {B g : Nat} {w0 w w' : World} {v : Value} {L : List Ent} (h : HpA B w g v L) (hf : Fr (hpS g v) w w') (h0 : Below B w0 w) (hB : B ≤ w.heap.size) : Below B w0 w' :=
  h0.trans (hf.to_below (fun i hi => hi.elim (fun e => by rw [e]; exact h.2.1) (fun e => (h.2.2.2.1.lt i e).1)) hB)
theorem perm_two {a b : Ent} {M : List Ent} (h : M.Perm [a, b]) (ho : HeapO M) (hl : ltE a b) : eE M 0 = a := by
  have hs : OrdP [a, b] := by
    unfold OrdP
    simp [ltE_asym hl]
  obtain ⟨s, e, _⟩ := heap_head ho hs h.symm (by rw [h.length_eq]; simp)
  simp at e
  exact e.1.symm
set_option maxRecDepth 100000 in
set_option maxHeartbeats 2000000 in
theorem ents_eqz (A B : Option Addr) (c d n : Nat) (z : Nat → Nat → Int) (w : World) (ha : RdZ w 3 A n z) (hb : RdZ w 3 B n z) (hl : n ≤ 100000) :
    Calls Try.prog 6 #[.slice A n c, .slice B n d] w fun e w' => e = .returned (.bool true) ∧ ∃ k, w' = w.drewN k := by
  by_cases hn : n = 0
  · subst hn
    clear ha hb
    go_enter Try.func6, Try.ntmps6
    go_wp2_with fail
    go_loop [13] (fun i => i = .int .i64 0) (fun i => 0)
    case atStart => exact rfl
    case round =>
      obtain rfl := hrel
      go_wp2_with fail
      go_ret
      exact ⟨rfl, 0, rfl⟩
  · obtain ⟨b1, o1, rfl, _, h1⟩ := rdZ_row ha (by omega) (by omega)
    obtain ⟨b2, o2, rfl, _, h2⟩ := rdZ_row hb (by omega) (by omega)
    have H1 := Lib.hid h1
    have H2 := Lib.hid h2
    clear ha hb h1 h2
    go_enter Try.func6, Try.ntmps6
    go_wp2_with fail
    go_loopw [13] (fun i wr => ∃ k : Nat, k ≤ n ∧ i = .int .i64 k ∧ ∃ q, wr = w.drewN q) (fun i _ => n - (intOf i).toNat)
    case atStart => exact ⟨0, by omega, rfl, 0, rfl⟩
    case round =>
      obtain ⟨k, hk, rfl, q, rfl⟩ := hrel
      by_cases h : k < n
      · skip
        have a0 : w.cell? ⟨b1, o1 + k * 3, none⟩ = _ := H1.out k 0 h (by omega)
        have a1 := H1.out k 1 h (by omega)
        have a2 := H1.out k 2 h (by omega)
        have e0 : w.cell? ⟨b2, o2 + k * 3, none⟩ = _ := H2.out k 0 h (by omega)
        have e1 := H2.out k 1 h (by omega)
        have e2 := H2.out k 2 h (by omega)
        obtain ⟨x0, hx0⟩ : ∃ x, z k 0 = x := ⟨_, rfl⟩
        rw [hx0] at a0 e0
        obtain ⟨x1, hx1⟩ : ∃ x, z k 1 = x := ⟨_, rfl⟩
        rw [hx1] at a1 e1
        obtain ⟨x2, hx2⟩ : ∃ x, z k 2 = x := ⟨_, rfl⟩
        rw [hx2] at a2 e2
        clear hx0 hx1 hx2
        go_wp2_with fail
        go_quiet (fail)
        go_wp2_with fail
        go_roundw
        case rel => exact ⟨k + 1, by omega, by go_num, _, rfl⟩
        case measure => simp [intOf]; omega
      · go_wp2_with fail
        go_ret
        exact ⟨rfl, _, rfl⟩

theorem ents_same (va vb : Value) (M : List Ent) (w : World) (ha : IsE w va M) (hb : IsE w vb M) (hl : M.length ≤ 100000) : Calls Try.prog 6 #[va, vb] w fun e w' => e = .returned (.bool true) ∧ Below w.heap.size w w' := by
  obtain ⟨A, c, rfl, hr, _⟩ := ha
  obtain ⟨A2, c2, rfl, hr2, _⟩ := hb
  refine (ents_eqz A A2 c c2 _ _ w hr hr2 hl).mono ?_
  rintro e w' ⟨rfl, k, rfl⟩
  exact ⟨rfl, below_drewN (Below.refl _ _) k⟩
set_option maxRecDepth 100000 in
set_option maxHeartbeats 8000000 in
theorem alive06 (w : World) : Calls Try.prog 11 #[] w fun e w' => e = .returned (.bool true) ∧ Below w.heap.size w w' := by
  have hp0 : HpA w.heap.size (w.alloc (.cells #[.slice none 0 0] 55)) w.heap.size (.slice none 0 0) [] := ⟨Blk.new w _ _, Nat.le_refl _, fun e => (by cases e), ⟨by simp [rowM_zero], Or.inl ⟨rfl, rfl⟩⟩, fun y h => (by cases h), fun i _ h => absurd h (Nat.not_lt_zero _)⟩
  have HP0 := Lib.hid hp0
  have B0 : Hid (Below w.heap.size w (w.alloc (.cells #[.slice none 0 0] 55))) := Lib.hid ((Below.refl w.heap.size w).alloc (Nat.le_refl _) _)
  have K1 := Lib.hid (push_any _ _ _ (5, 1, 0) [] _ HP0.out (by unfold WfE; decide) (by simp))
  unfold aE at K1
  dsimp only at K1
  clear hp0
  go_enter Try.func11, Try.ntmps11
  go_wp2_with fail
  refine K1.out.mono ?_
  rintro e w1 ⟨rfl, v1, M1, hm, hp, hf, hn⟩
  have B1 := Lib.hid (hp_below HP0.out hf B0.out B0.out.size)
  obtain rfl := List.perm_singleton.1 hm
  have K2 := Lib.hid (push_any _ _ _ (5, 0, 9) _ _ hp (by unfold WfE; decide) (by simp))
  unfold aE at K2
  dsimp only at K2
  have HP1 := Lib.hid hp
  clear hm hf hn K1 hp
  go_wp2_with fail
  refine K2.out.mono ?_
  rintro e w2 ⟨rfl, v2, M2, hm, hp, hf, hn⟩
  have B2 := Lib.hid (hp_below HP1.out hf B1.out B1.out.size)
  have hlen : M2.length = 2 := hm.length_eq
  have he : eE M2 0 = (5, 0, 9) := perm_two hm hp.2.2.2.2.2 (by unfold ltE; decide)
  have K3 := Lib.hid (pop_some _ _ _ M2 _ hp (by omega) (by omega))
  rw [he] at K3
  unfold aE at K3
  dsimp only at K3
  have HP2 := Lib.hid hp; have HLN := Lib.hid hlen
  clear hm hf hn K2 hp he hlen
  go_wp2_with fail
  refine K3.out.mono ?_
  rintro e w3 ⟨rfl, v3, M3, hm, hp, hf, hn⟩
  have B3 := Lib.hid (hp_below HP2.out hf B2.out B2.out.size)
  have hl3 : M3.length = 1 := by rw [hm.length_eq, cutE_len, HLN.out]
  have K4 := Lib.hid (fun (o : Obj) => len_any (hp.fr (S := fun _ => False) ((Fr.refl _ w3).alloc o) (fun q => q) (fun _ _ q => q)))
  rw [hl3] at K4
  clear hm hf hn K3 hp hl3
  have B4 := Lib.hid (B3.out.alloc B3.out.size (.cells #[.int .i64 5, .int .i64 0, .int .i64 9] 24))
  go_wp2_with fail
  refine (K4.out _).mono ?_
  rintro e w4 ⟨rfl, rfl⟩
  go_wp2_with fail
  go_ret
  exact ⟨rfl, B4.out⟩
end Go.Proofs.Ytobeppajomhfjaa
