/- Contracts of words.Many. -/
import Derived.Test.YtbbcohgkiejhjaaRows
import Derived.Test.YtbbcohgkiejhjaaRowKit
import Derived.Test.YtbbcohgkiejhjaaSlicesEq
import Derived.Test.YtbbcohgkiejhjaaBlocks
import Derived.Test.YtbbcohgkiejhjaaWordsA
import Derived.Test.YtbbcohgkiejhjaaShelf
import Derived.WalkKit
import Derived.Lib.Hide
import Derived.WalkSpells
import Derived.WalkLawsBesides
import Derived.Laws.CopyOwn
import Derived.Deep.WholeRow
import Derived.Deep.RegionHeld3
import Derived.IntWalk
import Derived.Deep.QuietTactic
import Derived.BigQuiet
namespace Go.Proofs.Ytbbcohgkiejhjaa
open Go.RowKit
set_option linter.unusedSimpArgs false
set_option linter.unusedVariables false
set_option maxRecDepth 100000 in
set_option maxHeartbeats 400000 in
theorem many_none (A : Option Addr) (n c : Nat) (a m e : Int) (w : World) (hn : n ≤ 9223372036854775807) (ha : -9223372036854775808 ≤ a) (ha' : a ≤ 9223372036854775807)
    (h : (m < 0 ∧ e = 22) ∨ (m = 0 ∧ e = 0) ∨ (0 < m ∧ lf n a < m ∧ e = 50)) :
    Calls Try.prog 35 #[.agg #[.slice A n c, .int .i64 a], .int .i64 m] w fun x w' => x = .returned (.tuple #[.slice none 0 0, .agg #[.slice A n c, .int .i64 a], .int .i64 e]) ∧ Below w.heap.size w w' := by
  rcases h with ⟨h1, rfl⟩ | ⟨rfl, rfl⟩ | ⟨h1, h2, rfl⟩
  · go_enter Try.func35, Try.ntmps35
    go_wp2_with fail
    go_region
    all_goals go_wp2_with fail
    all_goals exact bodyPost_ret (v := .tuple #[.slice none 0 0, .agg #[.slice A n c, .int .i64 a], .int .i64 22]) (by simp [results, Try.results35, go_sem, *]) rfl ⟨rfl, by repeat (first | exact (((Below.refl _ _).alloc (Nat.le_refl _) _).alloc (by simp) _) | apply Below.drew | (apply Below.setCell; simp))⟩
  · go_enter Try.func35, Try.ntmps35
    go_wp2_with fail
    go_region
    all_goals go_wp2_with fail
    all_goals exact bodyPost_ret (v := .tuple #[.slice none 0 0, .agg #[.slice A n c, .int .i64 a], .int .i64 0]) (by simp [results, Try.results35, go_sem, *]) rfl ⟨rfl, by repeat (first | exact (((Below.refl _ _).alloc (Nat.le_refl _) _).alloc (by simp) _) | apply Below.drew | (apply Below.setCell; simp))⟩
  · have H2 := Lib.hid h2
    clear h2
    have hm0 : (m == 0) = false := by rw [beq_eq_false_iff_ne]; omega
    go_enter Try.func35, Try.ntmps35
    go_wp2_with fail
    refine (left_any A n c a _ hn ha ha').mono ?_
    rintro x w1 ⟨rfl, hb1⟩
    obtain ⟨g1, g2, hzz, hb⟩ := two_blk hb1
    clear hb1
    obtain ⟨k0, k1, f0, f1⟩ := g1.two
    obtain ⟨l0, l1, e0, e1⟩ := g2.two
    have G := Lib.hid (And.intro g1 g2)
    clear g1 g2
    have h3 := H2.out
    go_wp2_with fail
    go_region
    all_goals go_wp2_with fail
    all_goals exact bodyPost_ret (v := .tuple #[.slice none 0 0, .agg #[.slice A n c, .int .i64 a], .int .i64 50]) (by simp [results, Try.results35, go_sem, *]) rfl ⟨rfl, by repeat (first | exact hb | apply Below.drew | apply Below.setCell | exact Nat.le_refl _ | exact Nat.le_succ _)⟩
/-- the numbers from k on, m of them -/
def sub (zs : List Int) (k m : Nat) : List Int := (zs.drop k).take m
theorem sub_len (zs : List Int) (k m : Nat) (h : k + m ≤ zs.length) : (sub zs k m).length = m := by simp [sub]; omega
theorem sub_at (zs : List Int) (k m i : Nat) (hi : i < m) : zat (sub zs k m) i = zat zs (k + i) := by
  unfold zat sub
  simp [List.getD_eq_getElem?_getD, hi]
theorem sub_row {w : World} {b off k m : Nat} {zs : List Int} (h : RdI w .u32 (some ⟨b, off, none⟩) zs) (hk : k + m ≤ zs.length) : RdI w .u32 (some ⟨b, off + k, none⟩) (sub zs k m) := by
  apply rdI_mk
  intro i hi
  rw [sub_len zs k m hk] at hi
  obtain ⟨b', o', e, _, hc⟩ := rdI_row h (by omega)
  cases e
  obtain ⟨_, _, _, _, hw⟩ := h (k + i) (by omega)
  rw [sub_at zs k m i hi, Nat.add_assoc]
  exact ⟨hc (k + i) (by omega), hw⟩
theorem rdI_set {w : World} {k : IntKind} {b off : Nat} {zs : List Int} (h : RdI w k (some ⟨b, off, none⟩) zs) {p : Addr} (hp : p.block ≠ b) (u : Value) : RdI (w.setCell p u) k (some ⟨b, off, none⟩) zs := by
  intro i hi
  obtain ⟨a, e, hlt, hc, hw⟩ := h i hi
  refine ⟨a, e, by simpa [World.setCell] using hlt, ?_, hw⟩
  cases e
  rw [World.cell?_setCell_other w p _ u (fun e => hp (by rw [e, block_add]))]
  exact hc
theorem rdI_drewN {w : World} {k : IntKind} {A : Option Addr} {zs : List Int} (h : RdI w k A zs) (n : Nat) : RdI (w.drewN n) k A zs := h
theorem info32 : (Try.prog.info? 62).map (fun i => (i.zero, i.size, i.bytes)) = some (some (.int .u32 0), 1, 4) := by kernel_rfl
def CloneP (ys : List Int) (w : World) (e : Ending) (w' : World) : Prop := ∃ g cc, e = .returned (.slice (some ⟨g, 0, none⟩) ys.length cc) ∧ w.heap.size ≤ g ∧ RdI w' .u32 (some ⟨g, 0, none⟩) ys ∧ Below w.heap.size w w'
theorem clone_u32 (b off c : Nat) (ys : List Int) (w : World) (hr : RdI w .u32 (some ⟨b, off, none⟩) ys) (h0 : 0 < ys.length) (hl : ys.length ≤ 1000) :
    Calls Try.prog 57 #[.slice (some ⟨b, off, none⟩) ys.length c] w (CloneP ys w) := by
  obtain ⟨i0, hi, hz0, hz1, hz2⟩ := info_parts info32
  obtain ⟨b', o', e, _, hc⟩ := rdI_row hr h0
  cases e
  have hcell : ∀ j u, (ys.map (Value.int .u32))[j]? = some u → w.cell? ⟨b, off + j, none⟩ = some u := by
    intro j u hu
    rw [List.getElem?_map] at hu
    have hj : j < ys.length := by
      rcases Nat.lt_or_ge j ys.length with h | h
      · exact h
      · rw [List.getElem?_eq_none h] at hu; cases hu
    rw [hc j hj]
    rw [List.getElem?_eq_getElem hj] at hu
    unfold zat
    rw [List.getD_eq_getElem?_getD, List.getElem?_eq_getElem hj]
    simpa using hu
  refine (Try.slices_Clone i0 (.int .u32 0) 1 4 hi hz0 hz1 hz2 rfl (by omega) (fun _ => by kernel_rfl) b off ys.length c (ys.map (Value.int .u32)) w (by simp) (by simp only [maxLen]; omega) (by omega) hcell ?_).mono ?_
  · intro u hu
    obtain ⟨x, _, rfl⟩ := List.mem_map.1 hu
    rfl
  · rintro e w' ⟨v', rfl, hown, hne, hb⟩
    rcases hown.2 with ⟨rfl, _⟩ | ⟨g, cap, cur, rfl, hg, hh, hnc, _, hcs, htake⟩
    · exact absurd rfl hne
    · refine ⟨g, cap, rfl, hg, rdI_mk fun i hi => ?_, hb⟩
      have hcl := hown.cells (g := g) rfl i (.int .u32 (zat ys i)) (by unfold zat; rw [List.getElem?_map, List.getElem?_eq_getElem hi, List.getD_eq_getElem?_getD, List.getElem?_eq_getElem hi]; rfl)
      obtain ⟨_, _, _, _, hw⟩ := hr i hi
      refine ⟨?_, hw⟩
      by_cases h0 : i = 0
      · subst h0; simpa [Addr.add] using hcl
      · simpa [Addr.add, h0] using hcl
theorem clone_sub (b off c m : Nat) (ys : List Int) (w : World) (hr : RdI w .u32 (some ⟨b, off, none⟩) ys) (h : ys.length = m) (h0 : 0 < m) (hl : m ≤ 1000) :
    Calls Try.prog 57 #[.slice (some ⟨b, off, none⟩) m c] w (CloneP ys w) := by subst h; exact clone_u32 b off c ys w hr h0 hl
def ManyP (A : Option Addr) (n c : Nat) (a : Int) (ys : List Int) (w : World) (e : Ending) (w' : World) : Prop := ∃ g cc, e = .returned (.tuple #[.slice (some ⟨g, 0, none⟩) ys.length cc, .agg #[.slice A n c, .int .i64 a], .int .i64 0]) ∧ RdI w' .u32 (some ⟨g, 0, none⟩) ys ∧ Below w.heap.size w w'
set_option maxRecDepth 100000 in
set_option maxHeartbeats 400000 in
theorem many_some (b off c k m : Nat) (zs : List Int) (w : World) (hr : RdI w .u32 (some ⟨b, off, none⟩) zs) (hn : zs.length ≤ 1000) (hc : zs.length ≤ c) (hc' : c ≤ 9223372036854775807) (hm : 0 < m) (hk : k + m ≤ zs.length) :
    Calls Try.prog 35 #[.agg #[.slice (some ⟨b, off, none⟩) zs.length c, .int .i64 k], .int .i64 m] w (ManyP (some ⟨b, off, none⟩) zs.length c (k + m) (sub zs k m) w) := by
  have R := Lib.hid hr
  clear hr
  have hm0 : ((m : Int) == 0) = false := by rw [beq_eq_false_iff_ne]; omega
  have H := left_any (some ⟨b, off, none⟩) zs.length c k
  rw [lf_in (by omega)] at H
  have HL := Lib.hid H
  clear H
  go_enter Try.func35, Try.ntmps35
  go_wp2_with fail
  refine (HL.out _ (by omega) (by omega) (by omega)).mono ?_
  rintro x w1 ⟨rfl, hb1⟩
  obtain ⟨g1, g2, hzz, hb⟩ := two_blk hb1
  clear hb1
  obtain ⟨k0, k1, f0, f1⟩ := g1.two
  obtain ⟨l0, l1, e0, e1⟩ := g2.two
  have G := Lib.hid (And.intro g1 g2)
  clear g1 g2
  go_wp2_with fail
  have RX := Lib.hid (sub_row (R.out.kept hb) hk)
  have L1 := Lib.hid (sub_len zs k m hk)
  have hw1 : IntKind.i64.wrap ((k : Int) + m) = (k : Int) + m := IntWalk.i64_in _ (by omega)
  have hw2 : 0 ≤ (k : Int) + m := by omega
  have hw3 : ((k : Int) + m).toNat = k + m := by omega
  have hck : ¬ c = k := by omega
  have s1 : 0 ≤ (k : Int) := by omega
  have s2 : (k : Int) ≤ (k : Int) + m := by omega
  have s3 : (k : Int) + m ≤ (c : Int) := by omega
  have hkm : k + m - k = m := by omega
  go_region_held3 (fun W => W.cell? ⟨w.heap.size, 0, none⟩ = some (.slice (some ⟨b, off, none⟩) zs.length c) ∧ W.cell? ⟨w.heap.size, 1, none⟩ = some (.int .i64 k))
    (go_keep)
    (first
      | (go_at_call 57; refine (clone_sub b (off + k) (c - k) m (sub zs k m) _ (rdI_drewN RX.out _) L1.out hm (by omega)).mono ?_; rintro e w2 ⟨g, cc, rfl, hg, hR, hb2⟩; have G2 := Lib.hid (And.intro (Blk.next (G.out.1.draw _) hb2) (Blk.next (G.out.2.draw _) hb2)); have R2 := Lib.hid hR; clear hR k0 k1 f0 f1 l0 l1 e0 e1; obtain ⟨k0, k1, f0, f1⟩ := G2.out.1.two; obtain ⟨l0, l1, e0, e1⟩ := G2.out.2.two)
      | (go_at_call 56; refine (drawn_any (some ⟨b, off, none⟩) zs.length c k m _ (by omega) (by omega)).mono ?_; rintro e w3 ⟨rfl, hb3⟩; have G3 := Lib.hid (And.intro (Blk.next G2.out.1 hb3) (Blk.next G2.out.2 hb3)); have R3 := Lib.hid (R2.out.kept hb3); clear k0 k1 f0 f1 l0 l1 e0 e1; obtain ⟨k0, k1, f0, f1⟩ := G3.out.1.two; obtain ⟨l0, l1, e0, e1⟩ := G3.out.2.two))
  have hgg : w1.heap.size ≤ g := hg
  have hw3' : Below w.heap.size w w3 := ((below_drewN hb 1).trans (hb2.mono (show w.heap.size ≤ (w1.drewN 1).heap.size from hb.size))).trans (hb3.mono (Nat.le_trans hb.size (show w1.heap.size ≤ w2.heap.size from hb2.size)))
  have hne : w.heap.size + 1 ≠ g := by omega
  clear hkm hck hw1 hw2 hw3
  go_wp2_with fail
  refine bodyPost_ret (v := .tuple #[.slice (some ⟨g, 0, none⟩) m cc, .agg #[.slice (some ⟨b, off, none⟩) zs.length c, .int .i64 (k + m)], .int .i64 0]) (by simp [results, Try.results35, go_sem, l0, l1, hne, L1.out]) rfl ?_
  refine ⟨g, cc, by rw [L1.out], rdI_set (rdI_set R3.out hne _) hne _, (hw3'.setCell (Nat.le_succ _) _).setCell (Nat.le_succ _) _⟩
end Go.Proofs.Ytbbcohgkiejhjaa
