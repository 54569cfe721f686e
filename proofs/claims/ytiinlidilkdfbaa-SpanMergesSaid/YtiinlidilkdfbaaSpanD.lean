/- slices.Equal at spans; span.Len, gaps. -/
import Derived.Test.YtiinlidilkdfbaaRows
import Derived.Test.YtiinlidilkdfbaaRowKit
import Derived.Test.YtiinlidilkdfbaaRowS
import Derived.Test.YtiinlidilkdfbaaRowZ
import Derived.Test.YtiinlidilkdfbaaSlicesEq
import Derived.Test.YtiinlidilkdfbaaSlicesEqM
import Derived.Test.YtiinlidilkdfbaaRowL
import Derived.Test.YtiinlidilkdfbaaRowM
import Derived.Test.YtiinlidilkdfbaaMakeI
import Derived.Test.YtiinlidilkdfbaaBlocks
import Derived.Test.YtiinlidilkdfbaaSpanMath
import Derived.Test.YtiinlidilkdfbaaSpanA
import Derived.Test.YtiinlidilkdfbaaSpanB
import Derived.Test.YtiinlidilkdfbaaSpanC
import Derived.WalkKit
import Derived.IntWalk
import Derived.Lib.Hide
import Derived.WalkSpells
import Derived.WalkLawsBesides
import Derived.Laws.CopyOwn
import Derived.Laws.MakeOwn
import Derived.Laws.OwnMore
import Derived.Laws.AppendOwnNone
import Derived.OwnWalk
import Derived.BigRegion
import Derived.Deep.LoopGhost
import Derived.Deep.RegionHeld3
import Derived.Deep.QuietTactic
import Derived.BigQuiet
import Derived.Maps.AppendAt
namespace Go.Proofs.Ytiinlidilkdfbaa
open Go.RowKit
set_option linter.unusedSimpArgs false
set_option linter.unusedVariables false
def sameZ (m n n2 : Nat) (z z2 : Nat → Nat → Int) : Bool := decide (n = n2) && (List.range n).all fun k => (List.range m).all fun j => z k j == z2 k j
theorem sameZ_true (m n n2 : Nat) (z z2 : Nat → Nat → Int) : sameZ m n n2 z z2 = true ↔ n = n2 ∧ ∀ k < n, ∀ j < m, z k j = z2 k j := by simp [sameZ]
theorem sameZ_false {m n n2 : Nat} {z z2 : Nat → Nat → Int} (h : ¬ (n = n2 ∧ ∀ k < n, ∀ j < m, z k j = z2 k j)) : sameZ m n n2 z z2 = false := by
  rw [← sameZ_true] at h; simpa using h
set_option maxRecDepth 100000 in
set_option maxHeartbeats 4000000 in
theorem spans_eq (A B : Option Addr) (c d n n2 : Nat) (z z2 : Nat → Nat → Int) (w : World) (ha : RdZ w 2 A n z) (hb : RdZ w 2 B n2 z2) (hl : n ≤ 9223372036854775807) (hl2 : n2 ≤ 9223372036854775807) :
    Calls Try.prog 7 #[.slice A n c, .slice B n2 d] w fun e w' => e = .returned (.bool (sameZ 2 n n2 z z2)) ∧ ∃ k, w' = w.drewN k := by
  by_cases hnn : n = n2
  case neg =>
    have e : sameZ 2 n n2 z z2 = false := sameZ_false (fun h => hnn h.1)
    rw [e]
    clear ha hb e
    go_enter Try.func7, Try.ntmps7
    have hne : ((n : Int) == (n2 : Int)) = false := by simp; omega
    have hne2 : ((n : Int) != (n2 : Int)) = true := by simp; omega
    go_wp2_with fail
    go_ret
    exact ⟨rfl, 0, rfl⟩
  subst hnn
  by_cases hn : n = 0
  · subst hn
    have e : sameZ 2 0 0 z z2 = true := (sameZ_true ..).2 ⟨rfl, fun k h => absurd h (by omega)⟩
    rw [e]
    clear ha hb e
    go_enter Try.func7, Try.ntmps7
    go_wp2_with fail
    go_loop [13] (fun i => i = .int .i64 0) (fun i => 0)
    case atStart => exact rfl
    case round =>
      obtain rfl := hrel
      go_wp2_with fail
      go_ret
      exact ⟨rfl, 0, rfl⟩
  · obtain ⟨b1, o1, rfl, _, h1⟩ := rdZ_row ha (by omega) (by omega)
    obtain ⟨b2, o2, rfl, _, h2⟩ := rdZ_row hb (by omega) (by omega)
    have H1 := Lib.hid h1
    have H2 := Lib.hid h2
    clear ha hb h1 h2
    obtain ⟨R, hR⟩ : ∃ R, sameZ 2 n n z z2 = R := ⟨_, rfl⟩
    rw [hR]
    have HR := Lib.hid hR
    clear hR
    go_enter Try.func7, Try.ntmps7
    go_wp2_with fail
    go_loopw [13] (fun i wr => ∃ k : Nat, k ≤ n ∧ (Hid (∀ q < k, ∀ j < 2, z q j = z2 q j)) ∧ i = .int .i64 k ∧ ∃ q, wr = w.drewN q) (fun i _ => n - (intOf i).toNat)
    case atStart => exact ⟨0, by omega, Lib.hid (fun q h => absurd h (by omega)), rfl, 0, rfl⟩
    case round =>
      obtain ⟨k, hk, hall, rfl, q, rfl⟩ := hrel
      by_cases h : k < n
      · skip
        have a0 : w.cell? ⟨b1, o1 + k * 2, none⟩ = _ := H1.out k 0 h (by omega)
        have a1 := H1.out k 1 h (by omega)
        have e0 : w.cell? ⟨b2, o2 + k * 2, none⟩ = _ := H2.out k 0 h (by omega)
        have e1 := H2.out k 1 h (by omega)
        obtain ⟨x0, hx0⟩ : ∃ x, z k 0 = x := ⟨_, rfl⟩
        obtain ⟨y0, hy0⟩ : ∃ y, z2 k 0 = y := ⟨_, rfl⟩
        rw [hx0] at a0
        rw [hy0] at e0
        obtain ⟨x1, hx1⟩ : ∃ x, z k 1 = x := ⟨_, rfl⟩
        obtain ⟨y1, hy1⟩ : ∃ y, z2 k 1 = y := ⟨_, rfl⟩
        rw [hx1] at a1
        rw [hy1] at e1
        by_cases hs : x0 = y0 ∧ x1 = y1
        · have hall2 : Hid (∀ q < k + 1, ∀ j < 2, z q j = z2 q j) := Lib.hid (fun q hq j hj => by
            by_cases hqk : q < k
            · exact hall.out q hqk j hj
            · obtain rfl : q = k := by omega
              rcases j with _ | _ | j <;> first | omega | (simp only [hx0, hx1, hy0, hy1, hs]))
          clear hx0 hy0 hx1 hy1 hall
          obtain ⟨rfl, rfl⟩ := hs
          go_wp2_with fail
          go_quiet (fail)
          go_wp2_with fail
          go_roundw
          case rel => exact ⟨k + 1, by omega, hall2, by go_num, _, rfl⟩
          case measure => simp [intOf]; omega
        · obtain rfl : R = false := by
            rw [← HR.out]
            exact sameZ_false (fun hc => hs ⟨by rw [← hx0, ← hy0]; exact hc.2 k h 0 (by omega), by rw [← hx1, ← hy1]; exact hc.2 k h 1 (by omega)⟩)
          clear hx0 hy0 hx1 hy1 hall HR
          have hw : ((x0 == y0) = false) ∨ (x0 = y0 ∧ (x1 == y1) = false) := by
            by_cases g0 : x0 = y0
            case neg => exact Or.inl (by simpa using g0)
            by_cases g1 : x1 = y1
            case neg => exact Or.inr (⟨g0, by simpa using g1⟩)
            exact absurd ⟨g0, g1⟩ hs
          clear hs
          rcases hw with hb | ⟨rfl, hb⟩
          · go_wp2_with fail
            go_quiet (fail)
            go_wp2_with fail
            go_ret
            exact ⟨rfl, q + nq, World.drewN_drewN ..⟩
          · go_wp2_with fail
            go_quiet (fail)
            go_wp2_with fail
            go_ret
            exact ⟨rfl, q + nq, World.drewN_drewN ..⟩
      · obtain rfl : R = true := by
          rw [← HR.out]
          exact (sameZ_true ..).2 ⟨rfl, fun q hq j hj => hall.out q (by omega) j hj⟩
        clear hall HR
        go_wp2_with fail
        go_ret
        exact ⟨rfl, _, rfl⟩
theorem spans_same (va vb : Value) (L : List (Int × Int)) (w : World) (ha : IsS w va L) (hb : IsS w vb L) (hl : L.length ≤ 100000) :
    Calls Try.prog 7 #[va, vb] w fun e w' => e = .returned (.bool true) ∧ Below w.heap.size w w' := by
  obtain ⟨A, c, rfl, ra, _, _, _⟩ := ha
  obtain ⟨B, d, rfl, rb, _, _, _⟩ := hb
  refine (spans_eq A B c d L.length L.length (zS L) (zS L) w ra rb (by omega) (by omega)).mono ?_
  rintro e w' ⟨rfl, k, rfl⟩
  exact ⟨by rw [(sameZ_true ..).2 ⟨rfl, fun _ _ _ _ => rfl⟩], below_drewN (Below.refl _ _) k⟩
theorem one_span {w : World} (p q : Int) (hp : -9223372036854775808 ≤ p ∧ p ≤ 9223372036854775807) (hq : -9223372036854775808 ≤ q ∧ q ≤ 9223372036854775807) {W : World} {g : Nat} (hb : Blk W g 26 #[.int .i64 p, .int .i64 q]) : RdZ W 2 (some ⟨g, 0, none⟩) 1 (zS [(p, q)]) := fun i hi => by
  obtain rfl : i = 0 := by omega
  refine ⟨⟨g, 0, none⟩, rfl, hb.lt, fun j hj => ?_⟩
  rcases j with _ | _ | j
  · exact ⟨hb.cell 0, wf_i64_iff.2 hp⟩
  · exact ⟨hb.cell 1, wf_i64_iff.2 hq⟩
  · omega
theorem append_spans2 {w : World} {ops : Array Oper} {rest : List Oper} {o : Oper} {a : Act} {Q : Exit → Act → World → Prop} (hgd : o.guard = none) (s x : Operand)
    (ho : o.op = .call { callee := .builtin .append, args := #[s, x], argTypes := #[22, 22] }) (base : Nat) (v : Value) (n : Nat) (xs : List Value) (hs : a.eval s = v) (hown : w.ownsRow base 26 2 v n xs)
    (g c : Nat) (p q : Int) (hx : a.eval x = .slice (some ⟨g, 0, none⟩) 1 c) (hg : Blk w g 26 #[.int .i64 p, .int .i64 q]) (hsm : n ≤ 100000) (hbase : base ≤ w.heap.size)
    (h : ∀ v' w', w'.ownsRow base 26 2 v' (n + 1) (xs ++ [.int .i64 p, .int .i64 q]) → Below base w w' → (∀ b t cs, Blk w b t cs → v.ownBlock ≠ some b → Blk w' b t cs) → wpList Try.prog ops Q rest (a.put o.dst v') w') : wpList Try.prog ops Q (o :: rest) a w := by
  obtain ⟨i0, hi, hz0, hz1, hz2⟩ := info_parts spInfo
  refine wpList_append_own w hgd s x _ ho base 26 i0 (.agg #[.int .i64 0, .int .i64 0]) 2 16 Try.underlying22 hi hz0 hz1 hz2 rfl (by decide) v n xs hs hown ⟨g, 0, none⟩ 1 c [.int .i64 p, .int .i64 q] hx rfl (newsM hg) (by intro u hu; simp at hu; rcases hu with rfl | rfl <;> rfl) (by unfold maxLen; omega) (by omega) hbase ?_
  intro v' w' h1 h2 _
  exact h v' w' h1 ((Below.refl base w).grown h2 hbase (fun g hg => by first | exact ownR_ge hown hg | exact ownR_ge hown hg.symm)) (fun b t cs hb hne => (h2.block b hb.lt (Ne.symm hne)).trans hb)
theorem ownR_lt2 {w : World} {base : Nat} {e : TypeId} {m n g : Nat} {v : Value} {xs : List Value} (h : w.ownsRow base e m v n xs) (hg : v.ownBlock = some g) : g < w.heap.size := by
  rcases h.2 with ⟨rfl, _⟩ | ⟨g', cap, cur, rfl, hb, hh, _⟩
  · cases hg
  · obtain rfl : g' = g := by simpa [Value.ownBlock] using hg
    exact Blk.lt (cs := cur) (t := e) hh
theorem blk_two (w : World) {a b : Value} (t : TypeId) (o : Obj) : Blk ((w.alloc o).alloc (.cells #[a, b] t)) (w.heap.size + 1) t #[a, b] := by
  have := Blk.new (w.alloc o) #[a, b] t
  rwa [World.size_alloc] at this
set_option maxHeartbeats 1000000 in
theorem fempty_any (p q : Int) (w : World) :
    Calls Try.prog 26 #[.agg #[.int .i64 p, .int .i64 q]] w fun e w' => e = .returned (.bool (decide (q ≤ p))) ∧ Below w.heap.size w w' := by
  go_enter Try.func26, Try.ntmps26
  go_wp2_with fail
  go_ret
  exact ⟨rfl, (Below.refl _ _).alloc (Nat.le_refl _) _⟩
theorem lenL_take (L : List (Int × Int)) : ∀ k, k < L.length → lenL (L.take (k + 1)) = lenL (L.take k) + (zS L k 1 - zS L k 0) := by
  induction L with
  | nil => intro k h; simp at h
  | cons p r ih =>
    intro k h
    rcases k with _ | k
    · show (p.2 - p.1) + lenL (r.take 0) = 0 + (zS (p :: r) 0 1 - zS (p :: r) 0 0)
      simp [lenL, zS]
    · have := ih k (by simpa using h)
      show (p.2 - p.1) + lenL (r.take (k + 1)) = (p.2 - p.1) + lenL (r.take k) + (zS (p :: r) (k + 1) 1 - zS (p :: r) (k + 1) 0)
      have e : ∀ j, zS (p :: r) (k + 1) j = zS r k j := fun j => by unfold zS; simp
      rw [this, e, e]; omega
/-- what a row hasn't, so far -/
def gapP (L : List (Int × Int)) : Nat → List (Int × Int)
  | 0 => []
  | k + 1 => gapP L k ++ [(if k = 0 then -9223372036854775808 else zS L (k - 1) 1, zS L k 0)]
theorem gapP_len (L : List (Int × Int)) : ∀ k, (gapP L k).length = k
  | 0 => rfl
  | k + 1 => by simp [gapP, gapP_len L k]
theorem gapP_all : ∀ (L : List (Int × Int)) (cur : Int), (∀ k, k < L.length → True) → gapA cur L = (List.range L.length).map (fun k => (if k = 0 then cur else zS L (k - 1) 1, zS L k 0)) ++ [(if L.length = 0 then cur else zS L (L.length - 1) 1, 9223372036854775807)]
  | [], cur, _ => by simp [gapA]
  | p :: r, cur, _ => by
    rw [gapA, gapP_all r p.2 (fun _ _ => trivial), List.length_cons, List.range_succ_eq_map, List.map_cons, List.map_map, List.cons_append]
    have ez : ∀ k j, zS (p :: r) (k + 1) j = zS r k j := fun k j => by unfold zS; simp
    congr 1
    congr 1
    · refine List.map_congr_left fun k _ => ?_
      show ((if k = 0 then p.2 else zS r (k - 1) 1), zS r k 0) = ((if k + 1 = 0 then cur else zS (p :: r) k 1), zS (p :: r) (k + 1) 0)
      rw [ez, if_neg (Nat.succ_ne_zero k)]
      rcases k with _ | k
      · simp [zS]
      · rw [if_neg (Nat.succ_ne_zero k), ez]; rfl
    · rw [if_neg (Nat.succ_ne_zero _), Nat.add_sub_cancel]
      cases r with
      | nil => simp [zS]
      | cons q s => rw [if_neg (by simp), List.length_cons, Nat.add_sub_cancel, ez]
theorem gapP_map (L : List (Int × Int)) : ∀ k, gapP L k = (List.range k).map (fun k => (if k = 0 then -9223372036854775808 else zS L (k - 1) 1, zS L k 0))
  | 0 => rfl
  | k + 1 => by rw [gapP, gapP_map L k, List.range_succ, List.map_append]; rfl
theorem gap_end (L : List (Int × Int)) : gapA (-9223372036854775808) L = gapP L L.length ++ [(if L.length = 0 then -9223372036854775808 else zS L (L.length - 1) 1, 9223372036854775807)] := by
  rw [gapP_all L _ (fun _ _ => trivial), gapP_map]
end Go.Proofs.Ytiinlidilkdfbaa
