/- Contracts of people.Within, Up and of the law's own great; the chapter's example. -/
import Derived.Test.YteebeiflipfbkaaRows
import Derived.Test.YteebeiflipfbkaaRowKit
import Derived.Test.YteebeiflipfbkaaRowS
import Derived.Test.YteebeiflipfbkaaRowZ
import Derived.Test.YteebeiflipfbkaaSlicesEq
import Derived.Test.YteebeiflipfbkaaRowL
import Derived.Test.YteebeiflipfbkaaRowM
import Derived.Test.YteebeiflipfbkaaPeopleMath
import Derived.Test.YteebeiflipfbkaaBlocks
import Derived.Test.YteebeiflipfbkaaPeopleA
import Derived.Test.YteebeiflipfbkaaEnergyMin
import Derived.WalkKit
import Derived.IntWalk
import Derived.Lib.Hide
import Derived.Lib.SmallJoins
import Derived.WalkSpells
import Derived.WalkLawsBesides
import Derived.Laws.CopyOwn
import Derived.Laws.MakeOwn
import Derived.Laws.OwnMore
import Derived.OwnWalk
import Derived.Maps.AppendAt
import Derived.Deep.QuietTactic
import Derived.Deep.LoopGhost
import Derived.BigQuiet
import Derived.BigRegion
namespace Go.Proofs.Yteebeiflipfbkaa
open Go.RowKit
set_option linter.unusedSimpArgs false
set_option linter.unusedVariables false
set_option maxRecDepth 100000 in
set_option maxHeartbeats 2000000 in
theorem up_any (A : Option Addr) (c n : Nat) (z : Nat → Nat → Int) (w : World) (hr : RdZ w 4 A n z) (hn : n ≤ 100) :
    Calls Try.prog 18 #[.slice A n c] w fun e w' => e = .returned (.tuple #[.int .i64 (upP z n), .int .i64 ((n : Int) - upP z n)]) ∧ Below w.heap.size w w' := by
  have HR := Lib.hid hr
  clear hr
  go_enter Try.func18, Try.ntmps18
  go_wp2_with fail
  go_loopg [4, 9] n (fun g u i wr => ∃ k : Nat, k ≤ n ∧ g = n - k ∧ i = .int .i64 k ∧ u = .int .i64 (upP z k : Nat) ∧ Hid (Below w.heap.size w wr))
  case atStart => exact ⟨0, by omega, rfl, rfl, rfl, Lib.hid (Below.refl _ _)⟩
  case round =>
    obtain ⟨k, hk, rfl, rfl, rfl, HB⟩ := hrel
    have ul := upP_le z k
    by_cases h : k < n
    · obtain ⟨b, off, rfl, hlt, hc⟩ := rdZ_row (HR.out.kept HB.out) (by omega) (by omega)
      have c0 : wr.cell? ⟨b, off + k * 4, none⟩ = _ := hc k 0 h (by omega)
      have c1 := hc k 1 h (by omega)
      have c2 := hc k 2 h (by omega)
      have c3 := hc k 3 h (by omega)
      clear hc
      have HB2 := Lib.hid (HB.out.alloc HB.out.size (.cells #[.int .i64 (z k 0), .int .i64 (z k 1), .int .i64 (z k 2), .int .i64 (z k 3)] 35))
      by_cases h1 : z k 2 < z k 3
      · have E : Hid (upP z (k + 1) = upP z k + 1) := Lib.hid (by show (if _ then _ else _) = _; rw [if_pos h1])
        go_wp2_with fail
        go_roundg (n - (k + 1))
        case measure => omega
        case rel => exact ⟨k + 1, by omega, rfl, by go_num, by rw [E.out]; go_num, HB2⟩
      · have E : Hid (upP z (k + 1) = upP z k) := Lib.hid (by show (if _ then _ else _) = _; rw [if_neg h1])
        go_wp2_with fail
        go_roundg (n - (k + 1))
        case measure => omega
        case rel => exact ⟨k + 1, by omega, rfl, by go_num, by rw [E.out], HB2⟩
    · obtain rfl : k = n := by omega
      go_wp2_with fail
      go_ret2
      exact ⟨rfl, HB.out⟩
/-- the numbers are small -/
def SmallP (n : Nat) (z : Nat → Nat → Int) : Prop := ∀ i j, i < n → j < 4 → -1099511627776 ≤ z i j ∧ z i j ≤ 1099511627776
def GreatR (n : Nat) (z : Nat → Nat → Int) (w : World) (e : Ending) (w' : World) : Prop := ∃ b : Bool, e = .returned (.bool b) ∧ (b = false → n ≤ 100 ∧ SmallP n z) ∧ Below w.heap.size w w'
set_option maxRecDepth 100000 in
set_option maxHeartbeats 2000000 in
theorem great_any (A : Option Addr) (c n : Nat) (z : Nat → Nat → Int) (w : World) (hr : RdZ w 4 A n z) (hn : n ≤ 9223372036854775807) :
    Calls Try.prog 17 #[.slice A n c] w (GreatR n z w) := by
  by_cases hn1 : n ≤ 100
  · have HR := Lib.hid hr
    clear hr
    go_enter Try.func17, Try.ntmps17
    go_wp2_with fail
    go_loopg [3] n (fun g i wr => ∃ k : Nat, k ≤ n ∧ g = n - k ∧ i = .int .i64 k ∧ Hid (SmallP k z) ∧ Hid (Below w.heap.size w wr))
    case atStart => exact ⟨0, by omega, rfl, rfl, Lib.hid (fun i j hi => absurd hi (by omega)), Lib.hid (Below.refl _ _)⟩
    case round =>
      obtain ⟨k, hk, rfl, rfl, HS, HB⟩ := hrel
      by_cases h : k < n
      · obtain ⟨b, off, rfl, hlt, hc⟩ := rdZ_row (HR.out.kept HB.out) (by omega) (by omega)
        have c0 : wr.cell? ⟨b, off + k * 4, none⟩ = _ := hc k 0 h (by omega)
        have c1 := hc k 1 h (by omega)
        have c2 := hc k 2 h (by omega)
        have c3 := hc k 3 h (by omega)
        clear hc
        have HB2 := Lib.hid (HB.out.alloc HB.out.size (.cells #[.int .i64 (z k 0), .int .i64 (z k 1), .int .i64 (z k 2), .int .i64 (z k 3)] 35))
        have MN := fun ts t W => run_min4P (P := Try.prog) ts t (z k 0) (z k 1) (z k 2) (z k 3) W
        have MX := fun ts t W => run_max4P (P := Try.prog) ts t (z k 0) (z k 1) (z k 2) (z k 3) W
        obtain ⟨x, hx⟩ : ∃ x, min (min (min (z k 0) (z k 1)) (z k 2)) (z k 3) = x := ⟨_, rfl⟩
        obtain ⟨y, hy⟩ : ∃ y, max (max (max (z k 0) (z k 1)) (z k 2)) (z k 3) = y := ⟨_, rfl⟩
        rw [hx] at MN
        rw [hy] at MX
        have S : Hid (-1099511627776 ≤ x → y ≤ 1099511627776 → SmallP (k + 1) z) := Lib.hid fun h1 h2 i j hi hj => by
          rcases Nat.lt_or_ge i k with c | c
          · exact HS.out i j c hj
          · obtain rfl : i = k := by omega
            rcases j with _ | _ | _ | _ | j
            · show -1099511627776 ≤ z i 0 ∧ z i 0 ≤ 1099511627776; omega
            · show -1099511627776 ≤ z i 1 ∧ z i 1 ≤ 1099511627776; omega
            · show -1099511627776 ≤ z i 2 ∧ z i 2 ≤ 1099511627776; omega
            · show -1099511627776 ≤ z i 3 ∧ z i 3 ≤ 1099511627776; omega
            · omega
        clear hx hy HS
        by_cases h1 : x < -1099511627776
        · go_wp2_with fail
          go_ret
          exact ⟨true, rfl, (fun e => by cases e), HB2.out⟩
        · by_cases h2 : 1099511627776 < y
          · go_wp2_with fail
            go_ret
            exact ⟨true, rfl, (fun e => by cases e), HB2.out⟩
          · go_wp2_with fail
            go_roundg (n - (k + 1))
            case measure => omega
            case rel => exact ⟨k + 1, by omega, rfl, by go_num, Lib.hid (S.out (by omega) (by omega)), HB2⟩
      · obtain rfl : k = n := by omega
        go_wp2_with fail
        go_ret
        exact ⟨false, rfl, fun _ => ⟨hn1, HS.out⟩, HB.out⟩
  · have h : 100 < n := by omega
    go_enter Try.func17, Try.ntmps17
    go_wp2_with fail
    go_ret
    exact ⟨true, rfl, (fun e => by cases e), Below.refl _ _⟩
set_option maxRecDepth 100000 in
set_option maxHeartbeats 2000000 in
theorem numbered_any (B : Nat) (w0 : World) (v : Value) (n : Nat) (f : Nat → Nat → Int) (w : World) (hown : w.ownsRow B 35 4 v n (rowM 4 f n)) (hn : n ≤ 100) (hb : Below B w0 w) :
    Calls Try.prog 70 #[v] w fun e w' => e = .returned v ∧ w'.ownsRow B 35 4 v n (rowM 4 (numP f) n) ∧ Below B w0 w' := by
  by_cases h0 : n = 0
  · subst h0
    obtain ⟨A, c, rfl⟩ := ownM_slice hown
    rw [rowM_zero] at hown
    have HO := Lib.hid hown
    clear hown
    go_enter Try.func70, Try.ntmps70
    go_wp2_with fail
    go_loop [6] (fun i => i = .int .i64 0) (fun i => 0)
    case atStart => exact rfl
    case round =>
      obtain rfl := hrel
      go_wp2_with fail
      go_ret
      exact ⟨rfl, by rw [rowM_zero]; exact HO.out, hb⟩
  · obtain ⟨g, cap, rfl, hg, hcap⟩ := ownM_head hown (by omega)
    have HO := Lib.hid (show w.ownsRow B 35 4 (.slice (some ⟨g, 0, none⟩) n cap) n (rowM 4 (mixP (numP f) f 0) n) from by rw [rowM_congr (b := f) (fun i j _ _ => mixP_ge (Nat.zero_le i))]; exact hown)
    have HB := Lib.hid hb
    clear hown hb
    go_enter Try.func70, Try.ntmps70
    go_wp2_with fail
    go_loopg [6] n (fun gh i wr => ∃ k : Nat, k ≤ n ∧ gh = n - k ∧ i = .int .i64 k ∧ Hid (wr.ownsRow B 35 4 (.slice (some ⟨g, 0, none⟩) n cap) n (rowM 4 (mixP (numP f) f k) n)) ∧ Hid (Below B w0 wr))
    case atStart => exact ⟨0, by omega, rfl, rfl, HO, HB⟩
    case round =>
      clear HO HB
      obtain ⟨k, hk, rfl, rfl, HO, HB⟩ := hrel
      by_cases h : k < n
      · have hkI : (k : Int) < n := by omega
        have c0 : wr.cell? ⟨g, k * 4, none⟩ = some (.int .i64 (mixP (numP f) f k k 0)) := ownM_at HO.out h (show 0 < 4 by omega)
        rw [mixP_ge (Nat.le_refl k)] at c0
        have f0 := HO.out.frozenAt (k * 4)
        have HO2 := Lib.hid (show (wr.setCell ⟨g, k * 4, none⟩ (.int .i64 (k : Int))).ownsRow B 35 4 (.slice (some ⟨g, 0, none⟩) n cap) n (rowM 4 (mixP (numP f) f (k + 1)) n) from by
          have h1 := ownM_put (i := k) HO.out (show 0 < 4 by omega) (k : Int)
          rw [rowM_congr (b := mixP (numP f) f (k + 1)) (fun i j hi hj => ?_)] at h1
          · exact h1
          · rcases Nat.lt_trichotomy i k with c | c | c
            · rw [if_neg (by omega), mixP_lt c, mixP_lt (by omega)]
            · subst c
              rw [mixP_lt (by omega : i < i + 1), mixP_ge (Nat.le_refl i)]
              unfold numP
              by_cases c : j = 0
              · rw [if_pos ⟨rfl, c⟩, if_pos c]
              · rw [if_neg (by omega), if_neg c]
            · rw [if_neg (by omega), mixP_ge (by omega), mixP_ge (by omega)])
        have HB2 := Lib.hid (HB.out.setCell (p := ⟨g, k * 4, none⟩) hg (.int .i64 (k : Int)))
        clear HO HB
        go_wp2_with fail
        go_roundg (n - (k + 1))
        case measure => omega
        case rel => exact ⟨k + 1, by omega, rfl, by go_num, HO2, HB2⟩
      · obtain rfl : k = n := by omega
        have E : rowM 4 (mixP (numP f) f k) k = rowM 4 (numP f) k := rowM_congr fun i j hi hj => mixP_lt hi
        have hO := HO.out
        rw [E] at hO
        have HO3 := Lib.hid hO
        clear hO E HO
        go_wp2_with fail
        go_ret
        exact ⟨rfl, HO3.out, HB.out⟩
/-- is one of a span? -/
def spP (z : Nat → Nat → Int) (p q : Int) (k : Nat) : Bool := decide (p ≤ z k 1) && decide (z k 1 < q)
theorem spP_yes {z : Nat → Nat → Int} {p q : Int} {k : Nat} (h1 : p ≤ z k 1) (h2 : z k 1 < q) : spP z p q k = true := by unfold spP; rw [decide_eq_true h1, decide_eq_true h2]; rfl
theorem spP_no {z : Nat → Nat → Int} {p q : Int} {k : Nat} (h : ¬ (p ≤ z k 1 ∧ z k 1 < q)) : spP z p q k = false := by
  unfold spP
  by_cases h1 : p ≤ z k 1
  · rw [decide_eq_true h1, decide_eq_false (by omega)]; rfl
  · rw [decide_eq_false h1]; rfl
/-- the row of the chosen, under way -/
def SelRow (B : Nat) (w0 : World) (f : Nat → Nat → Int) (n : Nat) (v : Value) (wr : World) : Prop := wr.ownsRow B 35 4 v n (rowM 4 f n) ∧ Below B w0 wr
set_option maxRecDepth 100000 in
set_option maxHeartbeats 4000000 in
theorem within_any (A : Option Addr) (c n : Nat) (z : Nat → Nat → Int) (p q : Int) (w : World) (hr : RdZ w 4 A n z) (hn : n ≤ 100) :
    Calls Try.prog 23 #[.slice A n c, .agg #[.int .i64 p, .int .i64 q]] w (MadeM 4 (selP (spP z p q) n).length (numP (pickP z (selP (spP z p q) n))) w) := by
  obtain ⟨i0, hi, hz0, hz1, hz2⟩ := info_parts pasInfo
  have HR := Lib.hid hr
  have HBX := Lib.hid (Blk.new w #[(.int .i64 p : Value), .int .i64 q] 32)
  have HB0 := Lib.hid (show Below w.heap.size w (w.alloc (.cells #[.int .i64 p, .int .i64 q] 32)) from (Below.refl _ _).alloc (Nat.le_refl _) _)
  go_enter Try.func23, Try.ntmps23
  go_wp2_with fail
  go_loopg [5, 10] n (fun gh v i wr => ∃ k : Nat, k ≤ n ∧ gh = n - k ∧ i = .int .i64 k ∧ Hid (SelRow w.heap.size w (pickP z (selP (spP z p q) k)) (selP (spP z p q) k).length v wr) ∧ Hid (Blk wr w.heap.size 32 #[.int .i64 p, .int .i64 q] ∧ ∀ g, v.ownBlock = some g → w.heap.size < g))
  case atStart => exact ⟨0, by omega, rfl, rfl, Lib.hid ⟨World.ownsRow_nil _ _ _ _, HB0.out⟩, Lib.hid ⟨HBX.out, fun g h => by cases h⟩⟩
  case round =>
    clear HBX HB0
    obtain ⟨k, hk, rfl, rfl, HS, HX⟩ := hrel
    obtain ⟨vA, vc, hv⟩ := ownM_slice HS.out.1
    subst hv
    have hl := selP_len (spP z p q) k
    by_cases h : k < n
    · obtain ⟨b, off, rfl, hlt, hc⟩ := rdZ_row (HR.out.kept HS.out.2) (by omega) (by omega)
      have c0 : wr.cell? ⟨b, off + k * 4, none⟩ = _ := hc k 0 h (by omega)
      have c1 := hc k 1 h (by omega)
      have c2 := hc k 2 h (by omega)
      have c3 := hc k 3 h (by omega)
      have s0 := HX.out.1.cell 0
      have s1 := HX.out.1.cell 1
      have hsz : w.heap.size < wr.heap.size := HX.out.1.lt
      have HBa := Lib.hid (HS.out.2.alloc HS.out.2.size (.cells #[.int .i64 (z k 0), .int .i64 (z k 1), .int .i64 (z k 2), .int .i64 (z k 3)] 35))
      have HXa := Lib.hid (HX.out.1.alloc (.cells #[.int .i64 (z k 0), .int .i64 (z k 1), .int .i64 (z k 2), .int .i64 (z k 3)] 35))
      have HN := Lib.hid HX.out.2
      clear hc
      by_cases h1 : p ≤ z k 1
      · by_cases h2 : z k 1 < q
        · have E := Lib.hid (selP_yes (spP_yes h1 h2))
          have hown1 := (HS.out.1.alloc (.cells #[.int .i64 (z k 0), .int .i64 (z k 1), .int .i64 (z k 2), .int .i64 (z k 3)] 35)).alloc (.cells #[.int .i64 (z k 0), .int .i64 (z k 1), .int .i64 (z k 2), .int .i64 (z k 3)] 35)
          have HXb := Lib.hid (HXa.out.alloc (.cells #[.int .i64 (z k 0), .int .i64 (z k 1), .int .i64 (z k 2), .int .i64 (z k 3)] 35))
          have HBb := Lib.hid (HBa.out.alloc HBa.out.size (.cells #[.int .i64 (z k 0), .int .i64 (z k 1), .int .i64 (z k 2), .int .i64 (z k 3)] 35))
          clear HX HS HXa HBa
          go_wp2_with (at_builtin; (refine wpList_append_own_at _ rfl _ _ 30 rfl w.heap.size 35 i0 (.agg #[.int .i64 0, .int .i64 0, .int .i64 0, .int .i64 0]) 4 32 Try.underlying30 hi hz0 hz1 hz2 rfl (by decide) _ _ _ rfl hown1 ⟨_, 0, none⟩ 1 1 [.int .i64 (z k 0), .int .i64 (z k 1), .int .i64 (z k 2), .int .i64 (z k 3)] rfl rfl (newsM_new2 (cs := #[.int .i64 (z k 0), .int .i64 (z k 1), .int .i64 (z k 2), .int .i64 (z k 3)])) (by intro u hu; simp at hu; rcases hu with rfl | rfl | rfl | rfl <;> rfl) (by unfold maxLen; omega) (by omega) (by simp; omega) ?_); intro v' w1 hown' hgrow _ hat)
          have HB1 := Lib.hid (HBb.out.grown hgrow (by have := HBb.out.size; omega) (fun g hg => (hown1.lt g hg).1))
          have HX1 := Lib.hid (HXb.out.grownR hgrow (fun g hg => by have := HN.out g hg; omega))
          have HO1 := Lib.hid (show SelRow w.heap.size w (pickP z (selP (spP z p q) (k + 1))) (selP (spP z p q) (k + 1)).length v' w1 from by
            rw [E.out, List.length_append]
            refine ⟨?_, HB1.out⟩
            have e : rowM 4 (pickP z (selP (spP z p q) k)) (selP (spP z p q) k).length ++ [.int .i64 (z k 0), .int .i64 (z k 1), .int .i64 (z k 2), .int .i64 (z k 3)] = rowM 4 (pickP z (selP (spP z p q) k ++ [k])) ((selP (spP z p q) k).length + 1) := rowM_one (fun i j hi _ => (pickP_old hi).symm) (by show [_, _, _, _] = _; simp only [pickP_new])
            rw [e] at hown'
            exact hown')
          have HN1 := Lib.hid (show ∀ g, v'.ownBlock = some g → w.heap.size < g from fun g hg => by
            rcases hat with h | h
            · exact HN.out g (h ▸ hg)
            · rw [h] at hg; cases hg; simp; omega)
          clear hown1 hown' hgrow hat HB1 HBb HXb HN E
          go_wp2_with fail
          go_roundg (n - (k + 1))
          case measure => omega
          case rel => exact ⟨k + 1, by omega, rfl, by go_num, HO1, Lib.hid ⟨HX1.out, HN1.out⟩⟩
        · have E := Lib.hid (selP_no (spP_no (k := k) (z := z) (p := p) (q := q) (fun c => h2 c.2)))
          have HO1 := Lib.hid (show SelRow w.heap.size w (pickP z (selP (spP z p q) (k + 1))) (selP (spP z p q) (k + 1)).length (.slice vA (selP (spP z p q) k).length vc) (wr.alloc (.cells #[.int .i64 (z k 0), .int .i64 (z k 1), .int .i64 (z k 2), .int .i64 (z k 3)] 35)) from by rw [E.out]; exact ⟨HS.out.1.alloc _, HBa.out⟩)
          clear E HS HX HBa
          go_wp2_with fail
          go_roundg (n - (k + 1))
          case measure => omega
          case rel => exact ⟨k + 1, by omega, rfl, by go_num, HO1, Lib.hid ⟨HXa.out, HN.out⟩⟩
      · have E := Lib.hid (selP_no (spP_no (k := k) (z := z) (p := p) (q := q) (fun c => h1 c.1)))
        have HO1 := Lib.hid (show SelRow w.heap.size w (pickP z (selP (spP z p q) (k + 1))) (selP (spP z p q) (k + 1)).length (.slice vA (selP (spP z p q) k).length vc) (wr.alloc (.cells #[.int .i64 (z k 0), .int .i64 (z k 1), .int .i64 (z k 2), .int .i64 (z k 3)] 35)) from by rw [E.out]; exact ⟨HS.out.1.alloc _, HBa.out⟩)
        clear E HS HX HBa
        go_wp2_with fail
        go_roundg (n - (k + 1))
        case measure => omega
        case rel => exact ⟨k + 1, by omega, rfl, by go_num, HO1, Lib.hid ⟨HXa.out, HN.out⟩⟩
    · obtain rfl : k = n := by omega
      have N := Lib.hid (numbered_any w.heap.size w _ _ _ wr HS.out.1 (by omega) HS.out.2)
      have WF : Hid (∀ i j, i < (selP (spP z p q) k).length → j < 4 → (Lit.int .i64 (numP (pickP z (selP (spP z p q) k)) i j)).wf = true) := Lib.hid (by
        intro i j hi hj
        unfold numP
        split
        · exact WalkArith.wf_i64 (by omega)
        · have hm : (selP (spP z p q) k).getD i 0 ∈ selP (spP z p q) k := by
            rw [List.getD_eq_getElem?_getD, List.getElem?_eq_getElem hi]; simp
          obtain ⟨_, _, _, y⟩ := HR.out _ (selP_lt _ _ _ hm)
          exact (y j hj).2)
      clear HS HX
      go_wp2_with fail
      refine N.out.mono ?_
      rintro e w1 ⟨rfl, hown, hb⟩
      obtain ⟨A', c', hv, h1, h2, hR⟩ := ownM_rd hown WF.out
      cases hv
      have HRR := Lib.hid hR
      clear hown hR N
      go_wp2_with fail
      go_ret
      exact ⟨_, _, rfl, h1, h2, HRR.out, hb⟩
/-- the example's passengers -/
def exA (i j : Nat) : Int := if j = 3 then 2 else 0
def exB (i j : Nat) : Int := if j = 2 then 4 else if j = 3 then 2 else 0
theorem rd_one4 (w : World) (a b c d : Int) (z : Nat → Nat → Int) (h0 : z 0 0 = a) (h1 : z 0 1 = b) (h2 : z 0 2 = c) (h3 : z 0 3 = d) (hw : ∀ j, j < 4 → (Lit.int .i64 (z 0 j)).wf = true) : RdZ (w.alloc (.cells #[.int .i64 a, .int .i64 b, .int .i64 c, .int .i64 d] 35)) 4 (some ⟨w.heap.size, 0, none⟩) 1 z := by
  refine rdZ_mk (fun i j hi hj => ?_) (by simp)
  obtain rfl : i = 0 := by omega
  refine ⟨?_, hw j hj⟩
  rcases j with _ | _ | _ | _ | j
  · rw [h0]; exact World.cell?_alloc_mark w _ _ _ 0
  · rw [h1]; exact World.cell?_alloc_mark w _ _ _ 1
  · rw [h2]; exact World.cell?_alloc_mark w _ _ _ 2
  · rw [h3]; exact World.cell?_alloc_mark w _ _ _ 3
  · omega
theorem rdZ_congr {w : World} {m n : Nat} {A : Option Addr} {z y : Nat → Nat → Int} (h : RdZ w m A n z) (e : ∀ i j, i < n → j < m → z i j = y i j) : RdZ w m A n y := fun i hi => by
  obtain ⟨a, h1, h2, h3⟩ := h i hi
  exact ⟨a, h1, h2, fun j hj => by rw [← e i j hi hj]; exact h3 j hj⟩
set_option maxRecDepth 100000 in
set_option maxHeartbeats 2000000 in
theorem alive62 (w : World) :
    Calls Try.prog 24 #[] w fun e w' => e = .returned (.bool true) ∧ Below w.heap.size w w' := by
  have wa : ∀ j, j < 4 → (Lit.int .i64 (exA 0 j)).wf = true := by intro j hj; rcases j with _ | _ | _ | _ | j <;> first | rfl | omega
  have wb : ∀ j, j < 4 → (Lit.int .i64 (exB 0 j)).wf = true := by intro j hj; rcases j with _ | _ | _ | _ | j <;> first | rfl | omega
  have M := Lib.hid (mirror_any (some ⟨w.heap.size, 0, none⟩) 1 1 exA 5 _ (rd_one4 w 0 0 0 2 exA rfl rfl rfl rfl wa) (by omega) (by omega) (by omega) (by
    intro i j hi hj
    unfold exA
    split <;> omega))
  have HB := Lib.hid (show Below w.heap.size w (w.alloc (.cells #[.int .i64 0, .int .i64 0, .int .i64 0, .int .i64 2] 35)) from (Below.refl _ _).alloc (Nat.le_refl _) _)
  go_enter Try.func24, Try.ntmps24
  go_wp2_with fail
  refine M.out.mono ?_
  rintro e w1 ⟨A, c, rfl, _, _, hR, hb⟩
  have EQ := Lib.hid (equal_pas A (some ⟨w1.heap.size, 0, none⟩) c 1 1 exB _ (rdZ_congr (hR.kept ((Below.refl w1.heap.size w1).alloc (Nat.le_refl _) (.cells #[.int .i64 0, .int .i64 0, .int .i64 4, .int .i64 2] 35))) (by
    intro i j hi hj
    obtain rfl : i = 0 := by omega
    rcases j with _ | _ | _ | _ | j <;> first | rfl | omega)) (rd_one4 w1 0 0 4 2 exB rfl rfl rfl rfl wb) (by omega))
  have HB1 := HB.out.trans (hb.mono HB.out.size)
  have HB2 := Lib.hid (HB1.alloc HB1.size (.cells #[.int .i64 0, .int .i64 0, .int .i64 4, .int .i64 2] 35))
  clear hR hb HB1 M
  go_wp2_with fail
  refine EQ.out.mono ?_
  rintro e w2 ⟨rfl, q, rfl⟩
  go_wp2_with fail
  go_ret
  exact ⟨rfl, below_drewN HB2.out q⟩
end Go.Proofs.Yteebeiflipfbkaa
