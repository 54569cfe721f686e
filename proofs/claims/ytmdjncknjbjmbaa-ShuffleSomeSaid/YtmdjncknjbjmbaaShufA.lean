/- Contracts of slices.Contains at int and of shuffle.Back. -/
import Derived.Test.YtmdjncknjbjmbaaRows
import Derived.Test.YtmdjncknjbjmbaaRowKit
import Derived.Test.YtmdjncknjbjmbaaSlicesEq
import Derived.Test.YtmdjncknjbjmbaaSlicesEqM
import Derived.Test.YtmdjncknjbjmbaaRowL
import Derived.Test.YtmdjncknjbjmbaaMakeI
import Derived.Test.YtmdjncknjbjmbaaShufMath
import Derived.WalkKit
import Derived.IntWalk
import Derived.Lib.Hide
import Derived.WalkSpells
import Derived.WalkLawsBesides
import Derived.Laws.CopyOwn
import Derived.Laws.MakeOwn
import Derived.Laws.OwnMore
import Derived.OwnWalk
import Derived.Deep.QuietTactic
import Derived.Deep.LoopGhost
import Derived.BigQuiet
namespace Go.Proofs.Ytmdjncknjbjmbaa
open Go.RowKit
set_option linter.unusedSimpArgs false
set_option linter.unusedVariables false
theorem sretB {a b : Bool} (h : a = b) : Ending.returned (.bool a) = .returned (.bool b) := by rw [h]
theorem svint {k : IntKind} {a b : Int} (h : a = b) : Value.int k a = .int k b := by rw [h]
/-- the place of a number among the first k; below 0: none -/
def fstV (z : Nat → Int) (x : Int) (k n : Nat) : Prop := k ≤ n ∧ ∀ j, j < k → z j ≠ x
set_option maxHeartbeats 1000000 in
theorem index_none (A : Option Addr) (c n : Nat) (z : Nat → Int) (x : Int) (w : World) (hc : ∀ j, j < n → ∃ b o, A = some ⟨b, o, none⟩ ∧ w.cell? ⟨b, o + j, none⟩ = some (.int .i64 (z j))) (hn : n ≤ 1000) (h : ∀ j, j < n → z j ≠ x) :
    Calls Try.prog 64 #[.slice A n c, .int .i64 x] w fun e w' => e = .returned (.int .i64 (-1)) ∧ w = w' := by
  have HC := Lib.hid hc
  have HX := Lib.hid h
  clear hc h
  go_enter Try.func64, Try.ntmps64
  go_wp2_with fail
  go_loopg [8] n (fun g i wr => w = wr ∧ ∃ k : Nat, k ≤ n ∧ g = n - k ∧ i = .int .i64 k)
  case atStart => exact ⟨rfl, 0, by omega, rfl, rfl⟩
  case round =>
    obtain ⟨rfl, k, hk, rfl, rfl⟩ := hrel
    by_cases h : k < n
    · obtain ⟨b, o, rfl, c1⟩ := HC.out k h
      have hx := HX.out k h
      obtain ⟨y, hy⟩ : ∃ y, z k = y := ⟨_, rfl⟩
      rw [hy] at c1 hx
      have q1 : (x == y) = false := by rw [beq_eq_false_iff_ne]; exact fun e => hx e.symm
      clear hx hy
      go_wp2_with fail
      go_roundg (n - (k + 1))
      case measure => omega
      case rel => exact ⟨rfl, k + 1, by omega, rfl, by go_num⟩
    · obtain rfl : k = n := by omega
      go_wp2_with fail
      go_ret
      exact ⟨rfl, rfl⟩
set_option maxHeartbeats 1000000 in
theorem index_some (A : Option Addr) (c n m : Nat) (z : Nat → Int) (x : Int) (w : World) (hc : ∀ j, j < n → ∃ b o, A = some ⟨b, o, none⟩ ∧ w.cell? ⟨b, o + j, none⟩ = some (.int .i64 (z j))) (hn : n ≤ 1000) (hm : m < n) (hzm : z m = x) (h : ∀ j, j < m → z j ≠ x) :
    Calls Try.prog 64 #[.slice A n c, .int .i64 x] w fun e w' => e = .returned (.int .i64 m) ∧ w = w' := by
  have HC := Lib.hid hc
  have HX := Lib.hid h
  have HM := Lib.hid hzm
  clear hc h hzm
  go_enter Try.func64, Try.ntmps64
  go_wp2_with fail
  go_loopg [8] n (fun g i wr => w = wr ∧ ∃ k : Nat, k ≤ m ∧ g = n - k ∧ i = .int .i64 k)
  case atStart => exact ⟨rfl, 0, by omega, rfl, rfl⟩
  case round =>
    obtain ⟨rfl, k, hk, rfl, rfl⟩ := hrel
    have hkn : k < n := by omega
    obtain ⟨b, o, rfl, c1⟩ := HC.out k hkn
    by_cases h : k < m
    · have hx := HX.out k h
      obtain ⟨y, hy⟩ : ∃ y, z k = y := ⟨_, rfl⟩
      rw [hy] at c1 hx
      have q1 : (x == y) = false := by rw [beq_eq_false_iff_ne]; exact fun e => hx e.symm
      clear hx hy
      go_wp2_with fail
      go_roundg (n - (k + 1))
      case measure => omega
      case rel => exact ⟨rfl, k + 1, by omega, rfl, by go_num⟩
    · obtain rfl : k = m := by omega
      rw [HM.out] at c1
      go_wp2_with fail
      go_ret
      exact ⟨rfl, rfl⟩
theorem first_of {z : Nat → Int} {x : Int} : ∀ n, (∃ j, j < n ∧ z j = x) → ∃ m, m < n ∧ z m = x ∧ ∀ j, j < m → z j ≠ x
  | 0, ⟨j, hj, _⟩ => absurd hj (by omega)
  | n + 1, ⟨j, hj, e⟩ => by
    by_cases h : ∃ j, j < n ∧ z j = x
    · obtain ⟨m, hm, h1, h2⟩ := first_of n h; exact ⟨m, by omega, h1, h2⟩
    · have : j = n := by
        by_cases e2 : j = n
        · exact e2
        · exact absurd ⟨j, by omega, e⟩ h
      subst this
      exact ⟨j, by omega, e, fun i hi c => h ⟨i, hi, c⟩⟩
set_option maxHeartbeats 1000000 in
theorem contains_no (A : Option Addr) (c n : Nat) (z : Nat → Int) (x : Int) (w : World) (hc : ∀ j, j < n → ∃ b o, A = some ⟨b, o, none⟩ ∧ w.cell? ⟨b, o + j, none⟩ = some (.int .i64 (z j))) (hn : n ≤ 1000) (h : ∀ j, j < n → z j ≠ x) :
    Calls Try.prog 33 #[.slice A n c, .int .i64 x] w fun e w' => e = .returned (.bool false) ∧ w = w' := by
  have H := Lib.hid (index_none A c n z x w hc hn h)
  clear hc h
  go_enter Try.func33, Try.ntmps33
  go_wp2_with fail
  refine H.out.mono ?_
  rintro e w' ⟨rfl, rfl⟩
  go_wp2_with fail
  go_ret
  exact ⟨rfl, rfl⟩
set_option maxHeartbeats 1000000 in
theorem contains_yes (A : Option Addr) (c n : Nat) (z : Nat → Int) (x : Int) (w : World) (hc : ∀ j, j < n → ∃ b o, A = some ⟨b, o, none⟩ ∧ w.cell? ⟨b, o + j, none⟩ = some (.int .i64 (z j))) (hn : n ≤ 1000) (h : ∃ j, j < n ∧ z j = x) :
    Calls Try.prog 33 #[.slice A n c, .int .i64 x] w fun e w' => e = .returned (.bool true) ∧ w = w' := by
  obtain ⟨m, hm, e, hf⟩ := first_of n h
  have H := Lib.hid (index_some A c n m z x w hc hn hm e hf)
  clear hc h hf e
  go_enter Try.func33, Try.ntmps33
  go_wp2_with fail
  refine H.out.mono ?_
  rintro e w' ⟨rfl, rfl⟩
  go_wp2_with fail
  go_ret
  exact ⟨rfl, rfl⟩
/-- a row in another block stays -/
theorem own_far {w : World} {base : Nat} {e : TypeId} {size : Nat} {v : Value} {n : Nat} {xs : List Value} (h : w.ownsRow base e size v n xs) {p : Addr} (hp : v.ownBlock ≠ some p.block) (u : Value) : (w.setCell p u).ownsRow base e size v n xs :=
  h.kept (row := some p.block) ⟨rfl, rfl, rfl, by simp [World.setCell], fun i hi hne => Below.heap_setCell w p u i (fun c => hne (by rw [c]))⟩ (.inr hp)
theorem binfo : (Try.prog.info? 4).map (fun i => (i.zero, i.size, i.bytes)) = some (some (.bool false), 1, 1) := by kernel_rfl
/-- a row of Bools -/
def rowB (f : Nat → Bool) (n : Nat) : List Value := (List.range n).map fun v => .bool (f v)
theorem rowB_zeros (n : Nat) : (madeCells (Value.cells (.bool false)) (n * 1)).toList = rowB (fun _ => false) n := by
  rw [Nat.mul_one]
  show (madeCells #[Value.bool false] n).toList = _
  rw [toList_madeCells_one]
  unfold rowB
  apply List.ext_getElem
  · simp
  · intro i h1 h2; simp
theorem rowB_congr {f g : Nat → Bool} {n : Nat} (h : ∀ i, i < n → f i = g i) : rowB f n = rowB g n := by
  unfold rowB; exact List.map_congr_left fun i hi => by rw [h i (List.mem_range.1 hi)]
theorem rowB_set (f : Nat → Bool) (k n : Nat) (u : Bool) : (rowB f n).set k (.bool u) = rowB (fun i => if i = k then u else f i) n := by
  apply List.ext_getElem
  · simp [rowB]
  · intro i h1 h2
    simp only [rowB, List.getElem_set, List.getElem_map, List.getElem_range]
    by_cases h : k = i
    · simp [h]
    · simp [h, Ne.symm h]
theorem rowB_cell {w : World} {base : Nat} {e : TypeId} {g cap n : Nat} {f : Nat → Bool} (h : w.ownsRow base e 1 (.slice (some ⟨g, 0, none⟩) n cap) n (rowB f n)) {i : Nat} (hi : i < n) : w.cell? ⟨g, i, none⟩ = some (.bool (f i)) := by
  rw [h.cellAt i (by omega)]
  unfold rowB
  simp [hi]
/-- the loop's relation -/
def BRow (z : Nat → Int) (n G k : Nat) (w wr : World) : Prop := wr.ownsRow w.heap.size 3 1 (.slice (some ⟨w.heap.size, 0, none⟩) n n) n ((rowL (backV z k) n).map (Value.int .i64)) ∧ wr.ownsRow w.heap.size 4 1 (.slice (some ⟨G, 0, none⟩) n n) n (rowB (toldV z k) n) ∧ Below w.heap.size w wr
theorem brow_put {z : Nat → Int} {n G k v : Nat} {w wr : World} (hG : w.heap.size ≠ G) (hGl : w.heap.size ≤ G) (hv : z k = v) (h : BRow z n G k w wr) : BRow z n G (k + 1) w ((wr.setCell ⟨w.heap.size, v, none⟩ (.int .i64 k)).setCell ⟨G, v, none⟩ (.bool true)) := by
  obtain ⟨h1, h2, hb⟩ := h
  refine ⟨?_, ?_, (hb.setCell (Nat.le_refl _) _).setCell hGl _⟩
  · have e : (rowL (backV z k) n).set v (k : Int) = rowL (backV z (k + 1)) n := by
      rw [rowL_set]
      refine rowL_congr fun i _ => ?_
      show (if i = v then (k : Int) else backV z k i) = _
      rw [back_succ, hv]
      by_cases c : i = v
      · rw [if_pos c, if_pos (by rw [c])]
      · rw [if_neg c, if_neg (fun d => c (by omega))]
    exact own_far (mkRow_put h1 e) (by show some w.heap.size ≠ some G; intro c; exact hG (Option.some.inj c)) _
  · have h2' := own_far h2 (p := ⟨w.heap.size, v, none⟩) (by show some G ≠ some w.heap.size; intro c; exact hG (Option.some.inj c).symm) (.int .i64 k)
    have h3 := (h2'.stored v (.bool true)).1
    rw [rowB_set] at h3
    rw [rowB_congr (g := fun i => if i = v then true else toldV z k i)]
    · exact h3
    · intro i _
      rw [told_succ, hv]
      by_cases c : i = v
      · rw [if_pos c, decide_eq_true (by rw [c])]; rfl
      · rw [if_neg c, decide_eq_false (by omega)]; rfl
theorem back_wf (z : Nat → Int) (n k : Nat) (hk : k ≤ 1000) : ∀ i, i < (rowL (backV z k) n).length → (Lit.int .i64 (zat (rowL (backV z k) n) i)).wf = true := by
  intro i hi
  rw [rowL_len] at hi
  rw [rowL_at _ hi]
  have : ∀ m, m ≤ k → 0 ≤ backV z m i ∧ backV z m i ≤ 1000 := by
    intro m
    induction m with
    | zero => intro _; rw [back_zero]; omega
    | succ m ih =>
      intro hm
      rw [back_succ]
      have := ih (by omega)
      split <;> omega
  have := this k (Nat.le_refl _)
  exact WalkArith.wf_i64 (by omega)
def BackR (n : Nat) (ys : List Int) (w : World) (e : Ending) (w' : World) : Prop := ∃ A c, e = .returned (.tuple #[.slice A n c, .bool true]) ∧ RdI w' .i64 A ys ∧ Below w.heap.size w w'
set_option maxRecDepth 100000 in
set_option maxHeartbeats 4000000 in
theorem sback_ok (A : Option Addr) (c : Nat) (zs : List Int) (w : World) (hr : RdI w .i64 A zs) (hl : zs.length ≤ 1000) (hg : Good (zat zs) zs.length zs.length) :
    Calls Try.prog 34 #[.slice A zs.length c] w (BackR zs.length (rowL (backV (zat zs) zs.length) zs.length) w) := by
  obtain ⟨i0, hi, hz0, hz1, hz2⟩ := info_parts mkInfo
  obtain ⟨i1, ki, kz0, kz1, kz2⟩ := info_parts binfo
  have HZ := Lib.hid (mkZeros zs.length)
  have HZB := Lib.hid (rowB_zeros zs.length)
  have HR0 := Lib.hid hr
  have HG := Lib.hid hg
  have WF : Hid (∀ i, i < zs.length → -9223372036854775808 ≤ zat zs i ∧ zat zs i ≤ 9223372036854775807) := Lib.hid fun i hi => by obtain ⟨_, _, _, _, hw⟩ := hr i hi; exact bounds_i64 hw
  clear hr hg
  go_enter Try.func34, Try.ntmps34
  go_wp2_with (first
    | (at_make; refine wpList_make_full _ rfl _ _ 34 rfl w.heap.size 3 i0 (.int .i64 0) 1 Try.underlying34 hi hz0 hz1 _ _ _ _ zs.length rfl rfl (by omega) (by omega) (by rw [hz2]; omega) (by unfold maxLen; omega) (Nat.le_refl _) ?_; intro w0 hown0 hgrow0)
    | (at_make; refine wpList_make_full _ rfl _ _ 112 rfl w.heap.size 4 i1 (.bool false) 1 Try.underlying112 ki kz0 kz1 _ _ _ _ zs.length rfl rfl (by omega) (by omega) (by rw [kz2]; omega) (by unfold maxLen; omega) (by have := (hown0.lt w.heap.size rfl).2; omega) ?_; intro w1 hown1 hgrow1))
  rw [HZ.out] at hown0
  rw [HZB.out] at hown1
  have hG0 := (hown0.lt w.heap.size rfl).2
  have hb0 : Below w.heap.size w w0 := (Below.refl _ _).grown hgrow0 (Nat.le_refl _) (fun k h => by cases h)
  have hb1 : Below w.heap.size w w1 := hb0.grown hgrow1 hb0.size (fun k h => by cases h)
  have HB : BRow (zat zs) zs.length w0.heap.size 0 w w1 := ⟨hown0.kept hgrow1 (.inr (by intro c; cases c)), hown1, hb1⟩
  have hGne : w.heap.size ≠ w0.heap.size := by omega
  have hGle : w.heap.size ≤ w0.heap.size := by omega
  obtain ⟨G, hGd⟩ : ∃ G, w0.heap.size = G := ⟨_, rfl⟩
  rw [hGd] at HB hGne hGle ⊢
  clear hown0 hgrow0 hown1 hgrow1 hb0 hb1 hG0 hGd
  go_wp2_with fail
  go_loopg [16] zs.length (fun g i wr => ∃ k : Nat, k ≤ zs.length ∧ g = zs.length - k ∧ i = .int .i64 k ∧ BRow (zat zs) zs.length G k w wr)
  case atStart => exact ⟨0, by omega, rfl, rfl, HB⟩
  case round =>
    obtain ⟨k, hk, rfl, rfl, hB⟩ := hrel
    by_cases hkl : k < zs.length
    · skip
      obtain ⟨b, off, rfl, hlt, hc⟩ := rdI_row HR0.out (by omega)
      have c1 := (hB.2.2.cell (p := ⟨b, off + k, none⟩) hlt).trans (hc k hkl)
      have hF := HG.out k (by omega)
      obtain ⟨v, hv⟩ := Int.eq_ofNat_of_zero_le hF.1
      have hvn : v < zs.length := by have := hF.2.1; omega
      have hvI : (v : Int) < zs.length := by omega
      have ht : toldV (zat zs) k v = false := by
        cases hc : toldV (zat zs) k v
        · rfl
        · obtain ⟨j, hj, e⟩ := (told_iff k).1 hc
          exact absurd (by rw [e, hv]) (hF.2.2 j hj)
      have c2 := rowB_cell hB.2.1 hvn
      rw [ht] at c2
      have f1 := hB.1.frozenAt v
      have f2 := hB.2.1.frozenAt v
      have S := Lib.hid (brow_put hGne hGle hv hB)
      have gx := Lib.hid hB.2.2
      have e1 := ownR_cell hB.1 hvn
      obtain ⟨y, hy⟩ : ∃ y, backV (zat zs) k v = y := ⟨_, rfl⟩
      rw [hy] at e1
      rw [hv] at c1
      clear hc hF hB hv ht hy
      go_wp2_with fail
      go_roundg (zs.length - (k + 1))
      case measure => omega
      case rel => exact ⟨k + 1, by omega, rfl, by go_num, S.out⟩
    · obtain rfl : k = zs.length := by omega
      obtain ⟨B, cc, hv, hR⟩ := ownR_rd (ownR_len hB.1 (rowL_len _ _)) (back_wf (zat zs) zs.length zs.length hl)
      rw [rowL_len] at hv
      cases hv
      have hbb := hB.2.2
      clear hB
      go_wp2_with fail
      go_ret2
      exact ⟨_, _, rfl, hR, hbb⟩
set_option maxRecDepth 100000 in
set_option maxHeartbeats 4000000 in
theorem sback_bad (A : Option Addr) (c : Nat) (zs : List Int) (w : World) (hr : RdI w .i64 A zs) (hl : zs.length ≤ 1000) (m : Nat) (hm : m < zs.length) (hg : Good (zat zs) zs.length m) (hf : ¬ Fresh (zat zs) zs.length m) :
    Calls Try.prog 34 #[.slice A zs.length c] w fun e w' => e = .returned (.tuple #[.slice none 0 0, .bool false]) ∧ Below w.heap.size w w' := by
  obtain ⟨i0, hi, hz0, hz1, hz2⟩ := info_parts mkInfo
  obtain ⟨i1, ki, kz0, kz1, kz2⟩ := info_parts binfo
  have HZ := Lib.hid (mkZeros zs.length)
  have HZB := Lib.hid (rowB_zeros zs.length)
  have HR0 := Lib.hid hr
  have HG := Lib.hid hg
  have WF : Hid (∀ i, i < zs.length → -9223372036854775808 ≤ zat zs i ∧ zat zs i ≤ 9223372036854775807) := Lib.hid fun i hi => by obtain ⟨_, _, _, _, hw⟩ := hr i hi; exact bounds_i64 hw
  have HF := Lib.hid hf
  clear hf
  clear hr hg
  go_enter Try.func34, Try.ntmps34
  go_wp2_with (first
    | (at_make; refine wpList_make_full _ rfl _ _ 34 rfl w.heap.size 3 i0 (.int .i64 0) 1 Try.underlying34 hi hz0 hz1 _ _ _ _ zs.length rfl rfl (by omega) (by omega) (by rw [hz2]; omega) (by unfold maxLen; omega) (Nat.le_refl _) ?_; intro w0 hown0 hgrow0)
    | (at_make; refine wpList_make_full _ rfl _ _ 112 rfl w.heap.size 4 i1 (.bool false) 1 Try.underlying112 ki kz0 kz1 _ _ _ _ zs.length rfl rfl (by omega) (by omega) (by rw [kz2]; omega) (by unfold maxLen; omega) (by have := (hown0.lt w.heap.size rfl).2; omega) ?_; intro w1 hown1 hgrow1))
  rw [HZ.out] at hown0
  rw [HZB.out] at hown1
  have hG0 := (hown0.lt w.heap.size rfl).2
  have hb0 : Below w.heap.size w w0 := (Below.refl _ _).grown hgrow0 (Nat.le_refl _) (fun k h => by cases h)
  have hb1 : Below w.heap.size w w1 := hb0.grown hgrow1 hb0.size (fun k h => by cases h)
  have HB : BRow (zat zs) zs.length w0.heap.size 0 w w1 := ⟨hown0.kept hgrow1 (.inr (by intro c; cases c)), hown1, hb1⟩
  have hGne : w.heap.size ≠ w0.heap.size := by omega
  have hGle : w.heap.size ≤ w0.heap.size := by omega
  obtain ⟨G, hGd⟩ : ∃ G, w0.heap.size = G := ⟨_, rfl⟩
  rw [hGd] at HB hGne hGle ⊢
  clear hown0 hgrow0 hown1 hgrow1 hb0 hb1 hG0 hGd
  go_wp2_with fail
  go_loopg [16] zs.length (fun g i wr => ∃ k : Nat, k ≤ m ∧ g = zs.length - k ∧ i = .int .i64 k ∧ BRow (zat zs) zs.length G k w wr)
  case atStart => exact ⟨0, by omega, rfl, rfl, HB⟩
  case round =>
    obtain ⟨k, hk, rfl, rfl, hB⟩ := hrel
    have hkl : k < zs.length := by omega
    by_cases hkm : k < m
    · skip
      obtain ⟨b, off, rfl, hlt, hc⟩ := rdI_row HR0.out (by omega)
      have c1 := (hB.2.2.cell (p := ⟨b, off + k, none⟩) hlt).trans (hc k hkl)
      have hF := HG.out k (by omega)
      obtain ⟨v, hv⟩ := Int.eq_ofNat_of_zero_le hF.1
      have hvn : v < zs.length := by have := hF.2.1; omega
      have hvI : (v : Int) < zs.length := by omega
      have ht : toldV (zat zs) k v = false := by
        cases hc : toldV (zat zs) k v
        · rfl
        · obtain ⟨j, hj, e⟩ := (told_iff k).1 hc
          exact absurd (by rw [e, hv]) (hF.2.2 j hj)
      have c2 := rowB_cell hB.2.1 hvn
      rw [ht] at c2
      have f1 := hB.1.frozenAt v
      have f2 := hB.2.1.frozenAt v
      have S := Lib.hid (brow_put hGne hGle hv hB)
      have gx := Lib.hid hB.2.2
      have e1 := ownR_cell hB.1 hvn
      obtain ⟨y, hy⟩ : ∃ y, backV (zat zs) k v = y := ⟨_, rfl⟩
      rw [hy] at e1
      rw [hv] at c1
      clear hc hF hB hv ht hy
      go_wp2_with fail
      go_roundg (zs.length - (k + 1))
      case measure => omega
      case rel => exact ⟨k + 1, by omega, rfl, by go_num, S.out⟩
    · obtain rfl : k = m := by omega
      obtain ⟨b, off, rfl, hlt, hc⟩ := rdI_row HR0.out (by omega)
      have c1 := (hB.2.2.cell (p := ⟨b, off + k, none⟩) hlt).trans (hc k hkl)
      have hw := WF.out k hkl
      have HBb := Lib.hid hB.2.2
      clear hc
      by_cases x0 : zat zs k < 0
      · obtain ⟨x, hx⟩ : ∃ x, zat zs k = x := ⟨_, rfl⟩
        rw [hx] at c1 x0 hw
        clear hx hB
        go_wp2_with fail
        go_ret2
        exact ⟨rfl, HBb.out⟩
      · by_cases x1 : zat zs k < zs.length
        · obtain ⟨v, hv⟩ := Int.eq_ofNat_of_zero_le (show 0 ≤ zat zs k by omega)
          have hvn : v < zs.length := by omega
          have hvI : (v : Int) < zs.length := by omega
          have ht : toldV (zat zs) k v = true := by
            cases ht : toldV (zat zs) k v
            · exfalso
              refine HF.out ⟨by omega, by omega, fun j hj c => ?_⟩
              have := (told_iff (z := zat zs) (v := v) k).2 ⟨j, hj, by rw [c, hv]⟩
              rw [ht] at this; cases this
            · rfl
          have c2 := rowB_cell hB.2.1 hvn
          rw [ht] at c2
          rw [hv] at c1
          clear hB ht hv x0 x1
          go_wp2_with fail
          go_ret2
          exact ⟨rfl, HBb.out⟩
        · obtain ⟨x, hx⟩ : ∃ x, zat zs k = x := ⟨_, rfl⟩
          rw [hx] at c1 x0 hw x1
          have x2 : (zs.length : Int) ≤ x := by omega
          clear hx hB
          go_wp2_with fail
          go_ret2
          exact ⟨rfl, HBb.out⟩
end Go.Proofs.Ytmdjncknjbjmbaa
