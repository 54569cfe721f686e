/- The law's step of heaps: what is wanted of rows. -/
import Derived.Test.YtobeppajomhfjaaHeapT
import Derived.WalkKit
import Derived.IntWalk
import Derived.Lib.Hide
import Derived.WalkSpells
import Derived.WalkLawsBesides
import Derived.OwnWalk
import Derived.BigRegion
import Derived.Deep.LoopGhost
import Derived.Deep.RegionHeld3
import Derived.Deep.QuietTactic
import Derived.BigQuiet
import Derived.Laws.CopyOwn
import Derived.Laws.MakeOwn
import Derived.Laws.OwnMore
import Derived.Laws.AppendOwnNone
namespace Go.Proofs.Ytobeppajomhfjaa
open Go.RowKit
set_option linter.unusedVariables false
set_option linter.unusedSimpArgs false
/-- the document's row lies apart from the heap -/
def Sep (g : Nat) (v lv : Value) : Prop := ∀ a n c, lv = .slice (some a) n c → a.block ≠ g ∧ v.ownBlock ≠ some a.block
/-- a heap, and the same entries in order -/
def StP (B : Nat) (w : World) (g : Nat) (v : Value) (X : List Ent) (lv : Value) (M : List Ent) : Prop := HpA B w g v X ∧ M.Perm X ∧ OrdP M ∧ IsE w lv M ∧ Sep g v lv
theorem IsE.fr {S : Nat → Prop} {w w' : World} {v : Value} {L : List Ent} (h : IsE w v L) (hf : Fr S w w') (hs : ∀ a n c, v = .slice (some a) n c → ¬ S a.block) : IsE w' v L := by
  obtain ⟨A, c, rfl, hr, h1, h2, h3⟩ := h
  exact ⟨A, c, rfl, rdZ_fr hr hf (fun a e _ => hs a _ _ (by rw [e])), h1, h2, h3⟩
theorem StP.fr {S : Nat → Prop} {B g : Nat} {w w' : World} {v lv : Value} {X M : List Ent} (h : StP B w g v X lv M) (hf : Fr S w w') (hg : ¬ S g) (hv : ∀ i, v.ownBlock = some i → ¬ S i) (hs : ∀ a n c, lv = .slice (some a) n c → ¬ S a.block) : StP B w' g v X lv M :=
  ⟨h.1.fr hf hg hv, h.2.1, h.2.2.1, h.2.2.2.1.fr hf hs, h.2.2.2.2⟩
theorem StP.none {B g : Nat} {w w' : World} {v lv : Value} {X M : List Ent} (h : StP B w g v X lv M) (hf : Fr (fun _ => False) w w') : StP B w' g v X lv M := h.fr hf (fun q => q) (fun _ _ q => q) (fun _ _ _ _ q => q)
theorem StP.below {B g : Nat} {w w' : World} {v lv : Value} {X M : List Ent} (h : StP B w g v X lv M) (hb : Below w.heap.size w w') : StP B w' g v X lv M := h.none ((Fr.refl _ w).below hb)
set_option maxRecDepth 100000 in
set_option maxHeartbeats 20000000 in
theorem dput_empty (a0 : Addr) (cp : Nat) (hc0 : cp ≤ maxLen) (x : Ent) (w : World) (hx : WfE x) : Calls Try.prog 25 #[.slice (some a0) 0 cp, aE x] w (PutR [] x w) := by
  obtain ⟨a, d, f⟩ := x
  unfold aE
  dsimp only
  have HX := Lib.hid hx
  clear hx
  go_enter Try.func25, Try.ntmps25
  go_wp2_with fail
  go_loopw [5] (fun i wr => i = .int .i64 0 ∧ Hid (Blk wr w.heap.size 24 #[.int .i64 a, .int .i64 d, .int .i64 f]) ∧ Hid (Below w.heap.size w wr)) (fun i _ => 0)
  case atStart => exact ⟨rfl, Lib.hid (Blk.new w _ _), Lib.hid ((Below.refl w.heap.size w).alloc (Nat.le_refl _) _)⟩
  case round =>
    obtain ⟨rfl, HB, EE⟩ := hrel
    have kB0 : wr.cell? ⟨w.heap.size, 0, none⟩ = some (.int .i64 a) := HB.out.cell 0
    have kB1 : wr.cell? ⟨w.heap.size, 1, none⟩ = some (.int .i64 d) := HB.out.cell 1
    have kB2 : wr.cell? ⟨w.heap.size, 2, none⟩ = some (.int .i64 f) := HB.out.cell 2
    go_wp2_with fail
    have sK : ∀ X, Blk X (w.heap.size) 24 #[.int .i64 a, .int .i64 d, .int .i64 f] → (fun X => X.cell? ⟨w.heap.size, 0, none⟩ = some (.int .i64 a) ∧ X.cell? ⟨w.heap.size, 1, none⟩ = some (.int .i64 d) ∧ X.cell? ⟨w.heap.size, 2, none⟩ = some (.int .i64 f)) X := fun X hB => ⟨hB.cell 0, hB.cell 1, hB.cell 2⟩
    have LB0 := Lib.hid (HB.out.drew)
    have E0 := Lib.hid (EE.out.drew)
    clear kB0 kB1 kB2
    refine wp_region_held_drew (S := (fun X => X.cell? ⟨w.heap.size, 0, none⟩ = some (.int .i64 a) ∧ X.cell? ⟨w.heap.size, 1, none⟩ = some (.int .i64 d) ∧ X.cell? ⟨w.heap.size, 2, none⟩ = some (.int .i64 f))) (by kernel_rfl) (sK _ LB0.out) (fun hHeld => ?_)
    clear hHeld
    refine wpAnyH_take (i := 0) (v := ?_) rfl (by kernel_rfl) (by kernel_rfl) (by kernel_rfl) (fun _ _ _ h => h) (Or.inl ⟨by rfl, ?_⟩) (sK _ LB0.out) ?_
    rotate_left
    · (intro wS hSw; (try dsimp only at hSw); go_simp; try with_reducible rfl)
    simp only [Act.put, List.getElem_toArray, List.getElem_cons_zero, List.getElem_cons_succ, List.setIfInBounds_toArray, List.set_cons_zero, List.set_cons_succ]
    refine wpAnyH_take (i := 1) (v := ?_) rfl (by kernel_rfl) (by kernel_rfl) (by kernel_rfl) (fun _ _ _ h => h) (Or.inl ⟨by rfl, ?_⟩) (sK _ LB0.out) ?_
    rotate_left
    · (intro wS hSw; (try dsimp only at hSw); go_simp; try with_reducible rfl)
    simp only [Act.put, List.getElem_toArray, List.getElem_cons_zero, List.getElem_cons_succ, List.setIfInBounds_toArray, List.set_cons_zero, List.set_cons_succ]
    refine wpAnyH_take (i := 2) (v := ?_) rfl (by kernel_rfl) (by kernel_rfl) (by kernel_rfl) (fun _ _ _ h => h) (Or.inl ⟨by rfl, ?_⟩) (sK _ LB0.out) ?_
    rotate_left
    · (intro wS hSw; (try dsimp only at hSw); go_simp; try with_reducible rfl)
    simp only [Act.put, List.getElem_toArray, List.getElem_cons_zero, List.getElem_cons_succ, List.setIfInBounds_toArray, List.set_cons_zero, List.set_cons_succ]
    refine wpAnyH_take (i := 3) (v := undef) rfl (by kernel_rfl) (by kernel_rfl) (by kernel_rfl) (fun _ _ _ h => h) (Or.inr ⟨by kernel_rfl, rfl⟩) (sK _ LB0.out) ?_
    simp only [Act.put, List.getElem_toArray, List.getElem_cons_zero, List.getElem_cons_succ, List.setIfInBounds_toArray, List.set_cons_zero, List.set_cons_succ]
    refine wpAnyH_take (i := 4) (v := undef) rfl (by kernel_rfl) (by kernel_rfl) (by kernel_rfl) (fun _ _ _ h => h) (Or.inr ⟨by kernel_rfl, rfl⟩) (sK _ LB0.out) ?_
    simp only [Act.put, List.getElem_toArray, List.getElem_cons_zero, List.getElem_cons_succ, List.setIfInBounds_toArray, List.set_cons_zero, List.set_cons_succ]
    refine wpAnyH_take (i := 5) (v := undef) rfl (by kernel_rfl) (by kernel_rfl) (by kernel_rfl) (fun _ _ _ h => h) (Or.inr ⟨by kernel_rfl, rfl⟩) (sK _ LB0.out) ?_
    simp only [Act.put, List.getElem_toArray, List.getElem_cons_zero, List.getElem_cons_succ, List.setIfInBounds_toArray, List.set_cons_zero, List.set_cons_succ]
    refine wpAnyH_take (i := 6) (v := undef) rfl (by kernel_rfl) (by kernel_rfl) (by kernel_rfl) (fun _ _ _ h => h) (Or.inr ⟨by kernel_rfl, rfl⟩) (sK _ LB0.out) ?_
    simp only [Act.put, List.getElem_toArray, List.getElem_cons_zero, List.getElem_cons_succ, List.setIfInBounds_toArray, List.set_cons_zero, List.set_cons_succ]
    refine wpAnyH_take (i := 7) (v := undef) rfl (by kernel_rfl) (by kernel_rfl) (by kernel_rfl) (fun _ _ _ h => h) (Or.inr ⟨by kernel_rfl, rfl⟩) (sK _ LB0.out) ?_
    simp only [Act.put, List.getElem_toArray, List.getElem_cons_zero, List.getElem_cons_succ, List.setIfInBounds_toArray, List.set_cons_zero, List.set_cons_succ]
    refine wpAnyH_take (i := 8) (v := undef) rfl (by kernel_rfl) (by kernel_rfl) (by kernel_rfl) (fun _ _ _ h => h) (Or.inr ⟨by kernel_rfl, rfl⟩) (sK _ LB0.out) ?_
    simp only [Act.put, List.getElem_toArray, List.getElem_cons_zero, List.getElem_cons_succ, List.setIfInBounds_toArray, List.set_cons_zero, List.set_cons_succ]
    refine wpAnyH_take (i := 9) (v := undef) rfl (by kernel_rfl) (by kernel_rfl) (by kernel_rfl) (fun _ _ _ h => h) (Or.inr ⟨by kernel_rfl, rfl⟩) (sK _ LB0.out) ?_
    simp only [Act.put, List.getElem_toArray, List.getElem_cons_zero, List.getElem_cons_succ, List.setIfInBounds_toArray, List.set_cons_zero, List.set_cons_succ]
    refine wpAnyH_take (i := 10) (v := ?_) rfl (by kernel_rfl) (by kernel_rfl) (by kernel_rfl) (fun _ _ _ h => h) (Or.inl ⟨by rfl, ?_⟩) (sK _ LB0.out) ?_
    rotate_left
    · (intro wS hSw; (try dsimp only at hSw); go_simp; try with_reducible rfl)
    simp only [Act.put, List.getElem_toArray, List.getElem_cons_zero, List.getElem_cons_succ, List.setIfInBounds_toArray, List.set_cons_zero, List.set_cons_succ]
    refine wpAnyH_done (by kernel_rfl) ?_ _
    have esz := E0.out.size
    have hwl := LB0.out.lt
    have b0 : wr.drew.cell? ⟨w.heap.size, 0, none⟩ = some (.int .i64 a) := LB0.out.cell 0
    have b1 : wr.drew.cell? ⟨w.heap.size, 1, none⟩ = some (.int .i64 d) := LB0.out.cell 1
    have b2 : wr.drew.cell? ⟨w.heap.size, 2, none⟩ = some (.int .i64 f) := LB0.out.cell 2
    have c0 : wr.cell? ⟨w.heap.size, 0, none⟩ = some (.int .i64 a) := LB0.out.cell 0
    have c1 : wr.cell? ⟨w.heap.size, 1, none⟩ = some (.int .i64 d) := LB0.out.cell 1
    have c2 : wr.cell? ⟨w.heap.size, 2, none⟩ = some (.int .i64 f) := LB0.out.cell 2
    by_cases hc1 : 0 < cp
    · have hci : (0 : Int) < (cp : Int) := by omega
      go_wp2_with (first
        | (at_builtin; refine append_ents rfl _ _ rfl wr.drew.heap.size (.slice none 0 0) 0 [] rfl ⟨rfl, Or.inl ⟨rfl, rfl⟩⟩ _ 0 cp (fun _ _ => 0) rfl (fun i hi => absurd hi (Nat.not_lt_zero i)) (Nat.zero_le _) (fun e => by cases e) (by omega) (Nat.le_refl _) ?_; intro v1 w1 o1 q1; have s1 := q1.size; have BB1 := Blk.next (w := wr.drew) LB0.out q1; have g0 : w1.cell? ⟨w.heap.size, 0, none⟩ = some (.int .i64 a) := BB1.cell 0; have g1 : w1.cell? ⟨w.heap.size, 1, none⟩ = some (.int .i64 d) := BB1.cell 1; have g2 : w1.cell? ⟨w.heap.size, 2, none⟩ = some (.int .i64 f) := BB1.cell 2)
        | (at_builtin; refine append_ent rfl _ _ rfl wr.drew.heap.size v1 (0 + 0) _ rfl (ownM_below o1 ((Below.refl _ _).alloc (Nat.le_refl _) _)) w1.heap.size 1 a d f rfl (Blk.new w1 _ _) (by omega) (Nat.le_trans s1 (by simp)) ?_; intro v2 w2 o2 q2 _; have s2 := q2.size)
        | (at_builtin; refine append_ents rfl _ _ rfl wr.drew.heap.size v2 (0 + 0 + 1) _ rfl o2 _ 0 cp (fun _ _ => 0) rfl (fun i hi => absurd hi (Nat.not_lt_zero i)) (Nat.zero_le _) (fun e => by cases e) (by omega) (Nat.le_trans s1 (Nat.le_trans (by simp) s2)) ?_; intro v3 w3 o3 q3))
      go_ret
      exact ⟨v3, 0, rfl, Nat.le_refl _, own_isE (own_put (L := []) (k := 0) (Nat.le_refl _) (by simpa [rowM_zero] using o3)) (fun y hy => put_wf (L := []) HX.out (fun y h => by simp at h) hy), fun j _ h => absurd h (Nat.not_lt_zero _), fun h => absurd h (Nat.lt_irrefl _), E0.out.trans ((q1.trans (((Below.refl w1.heap.size w1).alloc (Nat.le_refl _) _).mono s1)|>.trans (q2.trans q3)).mono esz), own_new o3 (by have := E0.out.size; omega)⟩
    · obtain rfl : cp = 0 := by omega
      go_wp2_with (first
        | (at_builtin; refine append_ents rfl _ _ rfl wr.drew.heap.size (.slice none 0 0) 0 [] rfl ⟨rfl, Or.inl ⟨rfl, rfl⟩⟩ _ 0 0 (fun _ _ => 0) rfl (fun i hi => absurd hi (Nat.not_lt_zero i)) (Nat.zero_le _) (fun e => by cases e) (by omega) (Nat.le_refl _) ?_; intro v1 w1 o1 q1; have s1 := q1.size; have BB1 := Blk.next (w := wr.drew) LB0.out q1; have g0 : w1.cell? ⟨w.heap.size, 0, none⟩ = some (.int .i64 a) := BB1.cell 0; have g1 : w1.cell? ⟨w.heap.size, 1, none⟩ = some (.int .i64 d) := BB1.cell 1; have g2 : w1.cell? ⟨w.heap.size, 2, none⟩ = some (.int .i64 f) := BB1.cell 2)
        | (at_builtin; refine append_ent rfl _ _ rfl wr.drew.heap.size v1 (0 + 0) _ rfl (ownM_below o1 ((Below.refl _ _).alloc (Nat.le_refl _) _)) w1.heap.size 1 a d f rfl (Blk.new w1 _ _) (by omega) (Nat.le_trans s1 (by simp)) ?_; intro v2 w2 o2 q2 _; have s2 := q2.size)
        | (at_builtin; refine append_ents rfl _ _ rfl wr.drew.heap.size v2 (0 + 0 + 1) _ rfl o2 _ 0 0 (fun _ _ => 0) rfl (fun i hi => absurd hi (Nat.not_lt_zero i)) (Nat.zero_le _) (fun e => by cases e) (by omega) (Nat.le_trans s1 (Nat.le_trans (by simp) s2)) ?_; intro v3 w3 o3 q3))
      go_ret
      exact ⟨v3, 0, rfl, Nat.le_refl _, own_isE (own_put (L := []) (k := 0) (Nat.le_refl _) (by simpa [rowM_zero] using o3)) (fun y hy => put_wf (L := []) HX.out (fun y h => by simp at h) hy), fun j _ h => absurd h (Nat.not_lt_zero _), fun h => absurd h (Nat.lt_irrefl _), E0.out.trans ((q1.trans (((Below.refl w1.heap.size w1).alloc (Nat.le_refl _) _).mono s1)|>.trans (q2.trans q3)).mono esz), own_new o3 (by have := E0.out.size; omega)⟩
theorem dput_gen (v : Value) (x : Ent) (L : List Ent) (w : World) (hv : IsE w v L) (hl : L.length ≤ 1000) (hx : WfE x) : Calls Try.prog 25 #[v, aE x] w (PutR L x w) := by
  by_cases h0 : v = .slice none 0 0
  · exact dput_any v x L w hv (fun _ => h0) hl hx
  · rcases Nat.eq_zero_or_pos L.length with e | e
    · obtain rfl := List.length_eq_zero_iff.1 e
      obtain ⟨A, c, rfl, hr, h1, h2, h3⟩ := hv
      cases A with
      | none => exact absurd (by rw [h3 rfl]; rfl) h0
      | some a => exact dput_empty a c h2 x w hx
    · exact dput_any v x L w hv (fun h => by rw [h] at e; exact absurd e (Nat.lt_irrefl _)) hl hx
end Go.Proofs.Ytobeppajomhfjaa
