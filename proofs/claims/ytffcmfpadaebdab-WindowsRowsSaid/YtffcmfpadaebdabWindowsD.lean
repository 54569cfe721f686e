/- Contracts of windows.within and windows.Of. -/
import Derived.Test.YtffcmfpadaebdabRows
import Derived.Test.YtffcmfpadaebdabRowKit
import Derived.Test.YtffcmfpadaebdabRowS
import Derived.Test.YtffcmfpadaebdabRowZ
import Derived.Test.YtffcmfpadaebdabSlicesEq
import Derived.Test.YtffcmfpadaebdabRowL
import Derived.Test.YtffcmfpadaebdabRowM
import Derived.Test.YtffcmfpadaebdabBlocks
import Derived.Test.YtffcmfpadaebdabWinMath
import Derived.Test.YtffcmfpadaebdabWindowsA
import Derived.Test.YtffcmfpadaebdabWindowsB
import Derived.WalkKit
import Derived.IntWalk
import Derived.Lib.Hide
import Derived.Lib.SmallJoins
import Derived.WalkSpells
import Derived.WalkLawsBesides
import Derived.Laws.CopyOwn
import Derived.Laws.MakeOwn
import Derived.Laws.OwnMore
import Derived.OwnWalk
import Derived.Deep.QuietTactic
import Derived.Deep.RegionHeld3
import Derived.Deep.LoopGhost
import Derived.Deep.CutRange
import Derived.Deep.DeepCutAuto
import Derived.BigQuiet
import Derived.BigRegion
namespace Go.Proofs.Ytffcmfpadaebdab
open Go.RowKit
set_option linter.unusedSimpArgs false
set_option linter.unusedVariables false
set_option maxHeartbeats 1000000 in
theorem winin_any (p q t : Int) (w : World) :
    Calls Try.prog 11 #[.agg #[.int .i64 p, .int .i64 q], .int .i64 t] w fun e w' => e = .returned (.bool (decide (p ≤ t ∧ t < q))) ∧ Below w.heap.size w w' := by
  have HB := Lib.hid (show Below w.heap.size w (w.alloc (.cells #[.int .i64 p, .int .i64 q] 24)) from (Below.refl _ _).alloc (Nat.le_refl _) _)
  by_cases h1 : p ≤ t
  · by_cases h2 : t < q
    · rw [decide_eq_true (show p ≤ t ∧ t < q from ⟨h1, h2⟩)]
      go_enter Try.func11, Try.ntmps11
      go_wp2_with fail
      go_ret
      exact ⟨rfl, HB.out⟩
    · rw [decide_eq_false (show ¬ (p ≤ t ∧ t < q) from fun c => h2 c.2)]
      go_enter Try.func11, Try.ntmps11
      go_wp2_with fail
      go_ret
      exact ⟨rfl, HB.out⟩
  · rw [decide_eq_false (show ¬ (p ≤ t ∧ t < q) from fun c => h1 c.1)]
    go_enter Try.func11, Try.ntmps11
    go_wp2_with fail
    go_ret
    exact ⟨rfl, HB.out⟩
/-- the blocks of windows.Of: the span, the result, the row -/
structure OfS (w X : World) (p q : Int) (cs : Array Value) : Prop where
  s : Blk X w.heap.size 24 #[.int .i64 p, .int .i64 q]
  o : Blk X (w.heap.size + 1) 28 #[.int .i64 0, .int .i64 0, .int .i64 0, .int .i64 0, .int .i64 0, .int .i64 0, .int .i64 0]
  r : Blk X (w.heap.size + 1 + 1) 28 cs
  e : Below w.heap.size w X
theorem OfS.next {w X Y : World} {p q : Int} {cs : Array Value} (h : OfS w X p q cs) (hb : Below X.heap.size X Y) : OfS w Y p q cs := ⟨h.s.next hb, h.o.next hb, h.r.next hb, h.e.trans (hb.mono h.e.size)⟩
theorem OfS.alloc {w X : World} {p q : Int} {cs : Array Value} (h : OfS w X p q cs) (o : Obj) : OfS w (X.alloc o) p q cs := ⟨h.s.alloc o, h.o.alloc o, h.r.alloc o, h.e.alloc h.e.size o⟩
theorem OfS.set {w X : World} {p q : Int} {cs : Array Value} (h : OfS w X p q cs) (i : Nat) (u : Value) : OfS w (X.setCell ⟨w.heap.size + 1 + 1, i, none⟩ u) p q (cs.setIfInBounds i u) :=
  ⟨h.s.far (by show w.heap.size ≠ w.heap.size + 1 + 1; omega) u, h.o.far (by show w.heap.size + 1 ≠ w.heap.size + 1 + 1; omega) u, h.r.set i u, h.e.setCell (by show w.heap.size ≤ w.heap.size + 1 + 1; omega) u⟩
theorem of_start (w : World) (p q : Int) : OfS w (((w.alloc (.cells #[.int .i64 p, .int .i64 q] 24)).alloc (.cells #[.int .i64 0, .int .i64 0, .int .i64 0, .int .i64 0, .int .i64 0, .int .i64 0, .int .i64 0] 28)).alloc (.cells #[.int .i64 p, .int .i64 q, .int .i64 (0), .int .i64 (0), .int .i64 (0), .int .i64 (0), .int .i64 (0)] 28)) p q #[.int .i64 p, .int .i64 q, .int .i64 (0), .int .i64 (0), .int .i64 (0), .int .i64 (0), .int .i64 (0)] := by
  refine ⟨((Blk.new w _ _).alloc _).alloc _, ?_, ?_, (((Below.refl _ _).alloc (Nat.le_refl _) _).alloc (by simp) _).alloc (by simp; omega) _⟩
  · have h := (Blk.new (w.alloc (.cells #[.int .i64 p, .int .i64 q] 24)) #[.int .i64 0, .int .i64 0, .int .i64 0, .int .i64 0, .int .i64 0, .int .i64 0, .int .i64 0] 28).alloc (.cells #[.int .i64 p, .int .i64 q, .int .i64 (0), .int .i64 (0), .int .i64 (0), .int .i64 (0), .int .i64 (0)] 28)
    rw [World.size_alloc] at h
    exact h
  · have h := Blk.new ((w.alloc (.cells #[.int .i64 p, .int .i64 q] 24)).alloc (.cells #[.int .i64 0, .int .i64 0, .int .i64 0, .int .i64 0, .int .i64 0, .int .i64 0, .int .i64 0] 28)) #[.int .i64 p, .int .i64 q, .int .i64 (0), .int .i64 (0), .int .i64 (0), .int .i64 (0), .int .i64 (0)] 28
    rw [World.size_alloc, World.size_alloc] at h
    exact h
theorem ofC_bd (p q : Int) (z : Nat → Nat → Int) : ∀ k : Nat, 0 ≤ ofC p q z k ∧ ofC p q z k ≤ k
  | 0 => by show (0 : Int) ≤ 0 ∧ (0 : Int) ≤ 0; omega
  | k + 1 => by have := ofC_bd p q z k; show 0 ≤ ofC p q z k + _ ∧ ofC p q z k + _ ≤ _; split <;> omega
theorem ofI_bd (p q : Int) (z : Nat → Nat → Int) : ∀ k : Nat, 0 ≤ ofI p q z k ∧ ofI p q z k ≤ k
  | 0 => by show (0 : Int) ≤ 0 ∧ (0 : Int) ≤ 0; omega
  | k + 1 => by have := ofI_bd p q z k; show 0 ≤ ofI p q z k + _ ∧ ofI p q z k + _ ≤ _; split <;> omega
theorem ofO_bd (p q : Int) (z : Nat → Nat → Int) : ∀ k : Nat, 0 ≤ ofO p q z k ∧ ofO p q z k ≤ k
  | 0 => by show (0 : Int) ≤ 0 ∧ (0 : Int) ≤ 0; omega
  | k + 1 => by have := ofO_bd p q z k; show 0 ≤ ofO p q z k + _ ∧ ofO p q z k + _ ≤ _; split <;> omega
theorem ofB_bd (p q : Int) (z : Nat → Nat → Int) : ∀ k : Nat, 0 ≤ ofB p q z k ∧ ofB p q z k ≤ k
  | 0 => by show (0 : Int) ≤ 0 ∧ (0 : Int) ≤ 0; omega
  | k + 1 => by have := ofB_bd p q z k; show 0 ≤ ofB p q z k + _ ∧ ofB p q z k + _ ≤ _; split <;> omega
theorem ofW_bd (p q : Int) {z : Nat → Nat → Int} {n : Nat} (hz : TripB z n) : ∀ k : Nat, k ≤ n → -((k : Int) * 2147483648) ≤ ofW p q z k ∧ ofW p q z k ≤ k * 2147483648
  | 0, _ => by show -(((0 : Nat) : Int) * 2147483648) ≤ (0 : Int) ∧ (0 : Int) ≤ ((0 : Nat) : Int) * 2147483648; omega
  | k + 1, hk => by have := ofW_bd p q hz k (by omega); have h := hz k (by omega); show _ ≤ ofW p q z k + _ ∧ ofW p q z k + _ ≤ _; split <;> omega
set_option maxRecDepth 100000 in
set_option maxHeartbeats 8000000 in
theorem of_any (A : Option Addr) (c n : Nat) (z : Nat → Nat → Int) (p q : Int) (w : World) (hr : RdZ w 7 A n z) (hn : n ≤ 100) (hz : TripB z n) :
    Calls Try.prog 5 #[.slice A n c, .agg #[.int .i64 p, .int .i64 q]] w fun e w' => e = .returned (.agg #[.int .i64 p, .int .i64 q, .int .i64 (ofC p q z n), .int .i64 (ofI p q z n), .int .i64 (ofO p q z n), .int .i64 (ofW p q z n), .int .i64 (ofB p q z n)]) ∧ Below w.heap.size w w' := by
  have HR := Lib.hid hr
  have HTB := Lib.hid hz
  have S0 := Lib.hid (of_start w p q)
  have WI := Lib.hid (fun t X => winin_any p q t X)
  clear hr hz
  go_enter Try.func5, Try.ntmps5
  go_wp2_with fail
  go_loopg [12] n (fun gh i wr => ∃ k : Nat, k ≤ n ∧ gh = n - k ∧ i = .int .i64 k ∧ Hid (OfS w wr p q #[.int .i64 p, .int .i64 q, .int .i64 (ofC p q z k), .int .i64 (ofI p q z k), .int .i64 (ofO p q z k), .int .i64 (ofW p q z k), .int .i64 (ofB p q z k)]))
  case atStart => exact ⟨0, by omega, rfl, rfl, S0⟩
  case round =>
    clear S0
    obtain ⟨k, hk, rfl, rfl, HS⟩ := hrel
    by_cases h : k < n
    · obtain ⟨b, off, rfl, hlt, hc⟩ := rdZ_row (HR.out.kept HS.out.e) (by omega) (by omega)
      have c0 : wr.cell? ⟨b, off + k * 7, none⟩ = _ := hc k 0 h (by omega)
      have c1 := hc k 1 h (by omega)
      have c2 := hc k 2 h (by omega)
      have c3 := hc k 3 h (by omega)
      have c4 := hc k 4 h (by omega)
      have c5 := hc k 5 h (by omega)
      have c6 := hc k 6 h (by omega)
      clear hc
      have s0 := HS.out.s.cell 0
      have s1 := HS.out.s.cell 1
      have hgl := HS.out.r.lt
      have hs0 : w.heap.size < wr.heap.size := HS.out.s.lt
      have hs1 : w.heap.size + 1 < wr.heap.size := HS.out.o.lt
      have TX := Lib.hid (Blk.new wr #[.int .i64 (z k 0), .int .i64 (z k 1), .int .i64 (z k 2), .int .i64 (z k 3), .int .i64 (z k 4), .int .i64 (z k 5), .int .i64 (z k 6)] 38)
      have HS1 := Lib.hid (HS.out.alloc (.cells #[.int .i64 (z k 0), .int .i64 (z k 1), .int .i64 (z k 2), .int .i64 (z k 3), .int .i64 (z k 4), .int .i64 (z k 5), .int .i64 (z k 6)] 38))
      clear HS
      go_upto_if 19 with fail
      have bC := ofC_bd p q z k
      have bI := ofI_bd p q z k
      have bO := ofO_bd p q z k
      have bB := ofB_bd p q z k
      have bW := ofW_bd p q HTB.out k (by omega)
      have bT := HTB.out k h
      have hgne : wr.heap.size ≠ w.heap.size + 1 + 1 := by omega
      refine (WI.out _ _).mono ?_
      rintro e w2 ⟨rfl, hb1⟩
      have T := Lib.hid (TX.out.next hb1)
      have S := Lib.hid (HS1.out.next hb1)
      clear TX HS1 hb1 c0 c1 c2 c3 c4 c5 c6 s0 s1 hgl hs0 hs1 hlt
      have t1 := T.out.cell 1
      have t5 := T.out.cell 5
      have t6 := T.out.cell 6
      have s0 := S.out.s.cell 0
      have s1 := S.out.s.cell 1
      have r2 := S.out.r.cell 2
      have f2 := S.out.r.frozen 2
      have r3 := S.out.r.cell 3
      have f3 := S.out.r.frozen 3
      have r4 := S.out.r.cell 4
      have f4 := S.out.r.frozen 4
      have r5 := S.out.r.cell 5
      have f5 := S.out.r.frozen 5
      have r6 := S.out.r.cell 6
      have f6 := S.out.r.frozen 6
      go_upto_if 19 with fail
      go_cut [12] from 12 to 80 (fun s12 wx => s12 = .int .i64 (k : Int) ∧ Hid (Blk wx wr.heap.size 38 #[.int .i64 (z k 0), .int .i64 (z k 1), .int .i64 (z k 2), .int .i64 (z k 3), .int .i64 (z k 4), .int .i64 (z k 5), .int .i64 (z k 6)]) ∧ Hid (OfS w wx p q #[.int .i64 p, .int .i64 q, .int .i64 (ofC p q z (k + 1)), .int .i64 (ofI p q z k), .int .i64 (ofO p q z k), .int .i64 (ofW p q z k), .int .i64 (ofB p q z k)]))
      case first =>
        by_cases hc : p ≤ z k 1 ∧ z k 1 < q
        · have d := decide_eq_true hc
          have EC : ofC p q z (k + 1) = ofC p q z k + 1 := by show ofC p q z k + (if _ then _ else _) = _; rw [if_pos hc]
          have SF := Lib.hid (show OfS w (w2.setCell ⟨w.heap.size + 1 + 1, 2, none⟩ (.int .i64 (ofC p q z k + 1))) p q #[.int .i64 p, .int .i64 q, .int .i64 (ofC p q z (k + 1)), .int .i64 (ofI p q z k), .int .i64 (ofO p q z k), .int .i64 (ofW p q z k), .int .i64 (ofB p q z k)] from by rw [EC]; exact (S.out.set 2 (.int .i64 (ofC p q z k + 1))))
          have TF := Lib.hid (show Blk (w2.setCell ⟨w.heap.size + 1 + 1, 2, none⟩ (.int .i64 (ofC p q z k + 1))) wr.heap.size 38 #[.int .i64 (z k 0), .int .i64 (z k 1), .int .i64 (z k 2), .int .i64 (z k 3), .int .i64 (z k 4), .int .i64 (z k 5), .int .i64 (z k 6)] from (T.out.far hgne (.int .i64 (ofC p q z k + 1))))
          clear S T
          go_wp2_with fail
          go_meet
          exact ⟨rfl, TF, SF⟩
        · have d := decide_eq_false hc
          have EC : ofC p q z (k + 1) = ofC p q z k := by show ofC p q z k + (if _ then _ else _) = _; rw [if_neg hc]; omega
          have SF := Lib.hid (show OfS w w2 p q #[.int .i64 p, .int .i64 q, .int .i64 (ofC p q z (k + 1)), .int .i64 (ofI p q z k), .int .i64 (ofO p q z k), .int .i64 (ofW p q z k), .int .i64 (ofB p q z k)] from by rw [EC]; exact S.out)
          clear S
          go_wp2_with fail
          go_meet
          exact ⟨rfl, T, SF⟩
      case rest =>
        obtain ⟨rfl, T, S⟩ := hcut
        rename World => x1
        have t1 := T.out.cell 1
        have t5 := T.out.cell 5
        have t6 := T.out.cell 6
        have s0 := S.out.s.cell 0
        have s1 := S.out.s.cell 1
        have r2 := S.out.r.cell 2
        have f2 := S.out.r.frozen 2
        have r3 := S.out.r.cell 3
        have f3 := S.out.r.frozen 3
        have r4 := S.out.r.cell 4
        have f4 := S.out.r.frozen 4
        have r5 := S.out.r.cell 5
        have f5 := S.out.r.frozen 5
        have r6 := S.out.r.cell 6
        have f6 := S.out.r.frozen 6
        go_upto_region 7 with fail
        go_cut [12, 32] from 12 to 80 (fun s12 sb wx => s12 = .int .i64 (k : Int) ∧ sb = .bool (decide (0 ≤ z k 5 ∧ p ≤ z k 5 ∧ z k 5 < q)) ∧ Hid (Blk wx wr.heap.size 38 #[.int .i64 (z k 0), .int .i64 (z k 1), .int .i64 (z k 2), .int .i64 (z k 3), .int .i64 (z k 4), .int .i64 (z k 5), .int .i64 (z k 6)]) ∧ Hid (OfS w wx p q #[.int .i64 p, .int .i64 q, .int .i64 (ofC p q z (k + 1)), .int .i64 (ofI p q z k), .int .i64 (ofO p q z k), .int .i64 (ofW p q z k), .int .i64 (ofB p q z k)]))
        case first =>
          by_cases hc : 0 ≤ z k 5
          · have TS := Lib.hid S.out
            go_wp2_with fail
            refine (WI.out _ _).mono ?_
            rintro e x ⟨rfl, hb⟩
            have T1 := Lib.hid (T.out.next hb)
            have S1 := Lib.hid (S.out.next hb)
            clear T S TS hb t1 t5 t6 s0 s1 r2 f2 r3 f3 r4 f4 r5 f5 r6 f6
            have de : decide (0 ≤ z k 5 ∧ p ≤ z k 5 ∧ z k 5 < q) = decide (p ≤ z k 5 ∧ z k 5 < q) := by simp [hc]
            go_wp2_with fail
            go_meet
            exact ⟨rfl, by rw [de]; simp, T1, S1⟩
          · have de : decide (0 ≤ z k 5 ∧ p ≤ z k 5 ∧ z k 5 < q) = false := decide_eq_false (fun c => hc c.1)
            go_wp2_with fail
            go_meet
            exact ⟨rfl, by rw [de], T, S⟩
        case rest =>
          obtain ⟨rfl, rfl, T, S⟩ := hcut
          rename World => x2
          have t1 := T.out.cell 1
          have t5 := T.out.cell 5
          have t6 := T.out.cell 6
          have s0 := S.out.s.cell 0
          have s1 := S.out.s.cell 1
          have r2 := S.out.r.cell 2
          have f2 := S.out.r.frozen 2
          have r3 := S.out.r.cell 3
          have f3 := S.out.r.frozen 3
          have r4 := S.out.r.cell 4
          have f4 := S.out.r.frozen 4
          have r5 := S.out.r.cell 5
          have f5 := S.out.r.frozen 5
          have r6 := S.out.r.cell 6
          have f6 := S.out.r.frozen 6
          go_upto_if 32 with fail
          go_cut [12] from 12 to 80 (fun s12 wx => s12 = .int .i64 (k : Int) ∧ Hid (Blk wx wr.heap.size 38 #[.int .i64 (z k 0), .int .i64 (z k 1), .int .i64 (z k 2), .int .i64 (z k 3), .int .i64 (z k 4), .int .i64 (z k 5), .int .i64 (z k 6)]) ∧ Hid (OfS w wx p q #[.int .i64 p, .int .i64 q, .int .i64 (ofC p q z (k + 1)), .int .i64 (ofI p q z (k + 1)), .int .i64 (ofO p q z k), .int .i64 (ofW p q z (k + 1)), .int .i64 (ofB p q z k)]))
          case first =>
            by_cases hc : 0 ≤ z k 5 ∧ p ≤ z k 5 ∧ z k 5 < q
            · have d := decide_eq_true hc
              have EI : ofI p q z (k + 1) = ofI p q z k + 1 ∧ ofW p q z (k + 1) = ofW p q z k + (z k 5 - z k 1) := ⟨by show ofI p q z k + (if _ then _ else _) = _; rw [if_pos hc], by show ofW p q z k + (if _ then _ else _) = _; rw [if_pos hc]⟩
              have SF := Lib.hid (show OfS w ((x2.setCell ⟨w.heap.size + 1 + 1, 3, none⟩ (.int .i64 (ofI p q z k + 1))).setCell ⟨w.heap.size + 1 + 1, 5, none⟩ (.int .i64 (ofW p q z k + (z k 5 - z k 1)))) p q #[.int .i64 p, .int .i64 q, .int .i64 (ofC p q z (k + 1)), .int .i64 (ofI p q z (k + 1)), .int .i64 (ofO p q z k), .int .i64 (ofW p q z (k + 1)), .int .i64 (ofB p q z k)] from by rw [EI.1, EI.2]; exact ((S.out.set 3 (.int .i64 (ofI p q z k + 1))).set 5 (.int .i64 (ofW p q z k + (z k 5 - z k 1)))))
              have TF := Lib.hid (show Blk ((x2.setCell ⟨w.heap.size + 1 + 1, 3, none⟩ (.int .i64 (ofI p q z k + 1))).setCell ⟨w.heap.size + 1 + 1, 5, none⟩ (.int .i64 (ofW p q z k + (z k 5 - z k 1)))) wr.heap.size 38 #[.int .i64 (z k 0), .int .i64 (z k 1), .int .i64 (z k 2), .int .i64 (z k 3), .int .i64 (z k 4), .int .i64 (z k 5), .int .i64 (z k 6)] from ((T.out.far hgne (.int .i64 (ofI p q z k + 1))).far hgne (.int .i64 (ofW p q z k + (z k 5 - z k 1)))))
              clear S T
              go_wp2_with fail
              go_meet
              exact ⟨rfl, TF, SF⟩
            · have d := decide_eq_false hc
              have EI : ofI p q z (k + 1) = ofI p q z k ∧ ofW p q z (k + 1) = ofW p q z k := ⟨by show ofI p q z k + (if _ then _ else _) = _; rw [if_neg hc]; omega, by show ofW p q z k + (if _ then _ else _) = _; rw [if_neg hc]; omega⟩
              have SF := Lib.hid (show OfS w x2 p q #[.int .i64 p, .int .i64 q, .int .i64 (ofC p q z (k + 1)), .int .i64 (ofI p q z (k + 1)), .int .i64 (ofO p q z k), .int .i64 (ofW p q z (k + 1)), .int .i64 (ofB p q z k)] from by rw [EI.1, EI.2]; exact S.out)
              clear S
              go_wp2_with fail
              go_meet
              exact ⟨rfl, T, SF⟩
          case rest =>
            obtain ⟨rfl, T, S⟩ := hcut
            rename World => x3
            have t1 := T.out.cell 1
            have t5 := T.out.cell 5
            have t6 := T.out.cell 6
            have s0 := S.out.s.cell 0
            have s1 := S.out.s.cell 1
            have r2 := S.out.r.cell 2
            have f2 := S.out.r.frozen 2
            have r3 := S.out.r.cell 3
            have f3 := S.out.r.frozen 3
            have r4 := S.out.r.cell 4
            have f4 := S.out.r.frozen 4
            have r5 := S.out.r.cell 5
            have f5 := S.out.r.frozen 5
            have r6 := S.out.r.cell 6
            have f6 := S.out.r.frozen 6
            go_upto_region 10 with fail
            go_cut [12, 54] from 12 to 80 (fun s12 sb wx => s12 = .int .i64 (k : Int) ∧ sb = .bool (decide (0 ≤ z k 6 ∧ p ≤ z k 6 ∧ z k 6 < q)) ∧ Hid (Blk wx wr.heap.size 38 #[.int .i64 (z k 0), .int .i64 (z k 1), .int .i64 (z k 2), .int .i64 (z k 3), .int .i64 (z k 4), .int .i64 (z k 5), .int .i64 (z k 6)]) ∧ Hid (OfS w wx p q #[.int .i64 p, .int .i64 q, .int .i64 (ofC p q z (k + 1)), .int .i64 (ofI p q z (k + 1)), .int .i64 (ofO p q z k), .int .i64 (ofW p q z (k + 1)), .int .i64 (ofB p q z k)]))
            case first =>
              by_cases hc : 0 ≤ z k 6
              · have TS := Lib.hid S.out
                go_wp2_with fail
                refine (WI.out _ _).mono ?_
                rintro e x ⟨rfl, hb⟩
                have T1 := Lib.hid (T.out.next hb)
                have S1 := Lib.hid (S.out.next hb)
                clear T S TS hb t1 t5 t6 s0 s1 r2 f2 r3 f3 r4 f4 r5 f5 r6 f6
                have de : decide (0 ≤ z k 6 ∧ p ≤ z k 6 ∧ z k 6 < q) = decide (p ≤ z k 6 ∧ z k 6 < q) := by simp [hc]
                go_wp2_with fail
                go_meet
                exact ⟨rfl, by rw [de]; simp, T1, S1⟩
              · have de : decide (0 ≤ z k 6 ∧ p ≤ z k 6 ∧ z k 6 < q) = false := decide_eq_false (fun c => hc c.1)
                go_wp2_with fail
                go_meet
                exact ⟨rfl, by rw [de], T, S⟩
            case rest =>
              obtain ⟨rfl, rfl, T, S⟩ := hcut
              rename World => x4
              have t1 := T.out.cell 1
              have t5 := T.out.cell 5
              have t6 := T.out.cell 6
              have s0 := S.out.s.cell 0
              have s1 := S.out.s.cell 1
              have r2 := S.out.r.cell 2
              have f2 := S.out.r.frozen 2
              have r3 := S.out.r.cell 3
              have f3 := S.out.r.frozen 3
              have r4 := S.out.r.cell 4
              have f4 := S.out.r.frozen 4
              have r5 := S.out.r.cell 5
              have f5 := S.out.r.frozen 5
              have r6 := S.out.r.cell 6
              have f6 := S.out.r.frozen 6
              go_upto_if 54 with fail
              go_cut [12] from 12 to 80 (fun s12 wx => s12 = .int .i64 (k : Int) ∧ Hid (Blk wx wr.heap.size 38 #[.int .i64 (z k 0), .int .i64 (z k 1), .int .i64 (z k 2), .int .i64 (z k 3), .int .i64 (z k 4), .int .i64 (z k 5), .int .i64 (z k 6)]) ∧ Hid (OfS w wx p q #[.int .i64 p, .int .i64 q, .int .i64 (ofC p q z (k + 1)), .int .i64 (ofI p q z (k + 1)), .int .i64 (ofO p q z (k + 1)), .int .i64 (ofW p q z (k + 1)), .int .i64 (ofB p q z k)]))
              case first =>
                by_cases hc : 0 ≤ z k 6 ∧ p ≤ z k 6 ∧ z k 6 < q
                · have d := decide_eq_true hc
                  have EO : ofO p q z (k + 1) = ofO p q z k + 1 := by show ofO p q z k + (if _ then _ else _) = _; rw [if_pos hc]
                  have SF := Lib.hid (show OfS w (x4.setCell ⟨w.heap.size + 1 + 1, 4, none⟩ (.int .i64 (ofO p q z k + 1))) p q #[.int .i64 p, .int .i64 q, .int .i64 (ofC p q z (k + 1)), .int .i64 (ofI p q z (k + 1)), .int .i64 (ofO p q z (k + 1)), .int .i64 (ofW p q z (k + 1)), .int .i64 (ofB p q z k)] from by rw [EO]; exact (S.out.set 4 (.int .i64 (ofO p q z k + 1))))
                  have TF := Lib.hid (show Blk (x4.setCell ⟨w.heap.size + 1 + 1, 4, none⟩ (.int .i64 (ofO p q z k + 1))) wr.heap.size 38 #[.int .i64 (z k 0), .int .i64 (z k 1), .int .i64 (z k 2), .int .i64 (z k 3), .int .i64 (z k 4), .int .i64 (z k 5), .int .i64 (z k 6)] from (T.out.far hgne (.int .i64 (ofO p q z k + 1))))
                  clear S T
                  go_wp2_with fail
                  go_meet
                  exact ⟨rfl, TF, SF⟩
                · have d := decide_eq_false hc
                  have EO : ofO p q z (k + 1) = ofO p q z k := by show ofO p q z k + (if _ then _ else _) = _; rw [if_neg hc]; omega
                  have SF := Lib.hid (show OfS w x4 p q #[.int .i64 p, .int .i64 q, .int .i64 (ofC p q z (k + 1)), .int .i64 (ofI p q z (k + 1)), .int .i64 (ofO p q z (k + 1)), .int .i64 (ofW p q z (k + 1)), .int .i64 (ofB p q z k)] from by rw [EO]; exact S.out)
                  clear S
                  go_wp2_with fail
                  go_meet
                  exact ⟨rfl, T, SF⟩
              case rest =>
                obtain ⟨rfl, T, S⟩ := hcut
                rename World => x5
                have t1 := T.out.cell 1
                have t5 := T.out.cell 5
                have t6 := T.out.cell 6
                have s0 := S.out.s.cell 0
                have s1 := S.out.s.cell 1
                have r2 := S.out.r.cell 2
                have f2 := S.out.r.frozen 2
                have r3 := S.out.r.cell 3
                have f3 := S.out.r.frozen 3
                have r4 := S.out.r.cell 4
                have f4 := S.out.r.frozen 4
                have r5 := S.out.r.cell 5
                have f5 := S.out.r.frozen 5
                have r6 := S.out.r.cell 6
                have f6 := S.out.r.frozen 6
                go_upto_region 12 with fail
                go_cut [12, 75] from 12 to 80 (fun s12 sb wx => s12 = .int .i64 (k : Int) ∧ sb = .bool (decide (z k 1 < q ∧ (z k 5 < 0 ∨ q ≤ z k 5))) ∧ Hid (Blk wx wr.heap.size 38 #[.int .i64 (z k 0), .int .i64 (z k 1), .int .i64 (z k 2), .int .i64 (z k 3), .int .i64 (z k 4), .int .i64 (z k 5), .int .i64 (z k 6)]) ∧ Hid (OfS w wx p q #[.int .i64 p, .int .i64 q, .int .i64 (ofC p q z (k + 1)), .int .i64 (ofI p q z (k + 1)), .int .i64 (ofO p q z (k + 1)), .int .i64 (ofW p q z (k + 1)), .int .i64 (ofB p q z k)]))
                case first =>
                  by_cases h1 : z k 1 < q
                  · by_cases h2 : z k 5 < 0
                    · have de : decide (z k 1 < q ∧ (z k 5 < 0 ∨ q ≤ z k 5)) = true := decide_eq_true ⟨h1, .inl h2⟩
                      go_wp2_with fail
                      go_meet
                      exact ⟨rfl, by rw [de], T, S⟩
                    · by_cases h3 : q ≤ z k 5
                      · have de : decide (z k 1 < q ∧ (z k 5 < 0 ∨ q ≤ z k 5)) = true := decide_eq_true ⟨h1, .inr h3⟩
                        go_wp2_with fail
                        go_meet
                        exact ⟨rfl, by rw [de], T, S⟩
                      · have de : decide (z k 1 < q ∧ (z k 5 < 0 ∨ q ≤ z k 5)) = false := decide_eq_false (fun c => c.2.elim h2 h3)
                        go_wp2_with fail
                        go_meet
                        exact ⟨rfl, by rw [de], T, S⟩
                  · have de : decide (z k 1 < q ∧ (z k 5 < 0 ∨ q ≤ z k 5)) = false := decide_eq_false (fun c => h1 c.1)
                    go_wp2_with fail
                    go_meet
                    exact ⟨rfl, by rw [de], T, S⟩
                case rest =>
                  obtain ⟨rfl, rfl, T, S⟩ := hcut
                  rename World => x6
                  have t1 := T.out.cell 1
                  have t5 := T.out.cell 5
                  have t6 := T.out.cell 6
                  have s0 := S.out.s.cell 0
                  have s1 := S.out.s.cell 1
                  have r2 := S.out.r.cell 2
                  have f2 := S.out.r.frozen 2
                  have r3 := S.out.r.cell 3
                  have f3 := S.out.r.frozen 3
                  have r4 := S.out.r.cell 4
                  have f4 := S.out.r.frozen 4
                  have r5 := S.out.r.cell 5
                  have f5 := S.out.r.frozen 5
                  have r6 := S.out.r.cell 6
                  have f6 := S.out.r.frozen 6
                  by_cases hc : z k 1 < q ∧ (z k 5 < 0 ∨ q ≤ z k 5)
                  · have d := decide_eq_true hc
                    have EB : ofB p q z (k + 1) = ofB p q z k + 1 := by show ofB p q z k + (if _ then _ else _) = _; rw [if_pos hc]
                    have SF := Lib.hid (show OfS w (x6.setCell ⟨w.heap.size + 1 + 1, 6, none⟩ (.int .i64 (ofB p q z k + 1))) p q #[.int .i64 p, .int .i64 q, .int .i64 (ofC p q z (k + 1)), .int .i64 (ofI p q z (k + 1)), .int .i64 (ofO p q z (k + 1)), .int .i64 (ofW p q z (k + 1)), .int .i64 (ofB p q z (k + 1))] from by rw [EB]; exact S.out.set 6 (.int .i64 (ofB p q z k + 1)))
                    clear S T EB
                    go_wp2_with fail
                    go_roundg (n - (k + 1))
                    case measure => omega
                    case rel => exact ⟨k + 1, by omega, rfl, by go_num, SF⟩
                  · have d := decide_eq_false hc
                    have EB : ofB p q z (k + 1) = ofB p q z k := by show ofB p q z k + (if _ then _ else _) = _; rw [if_neg hc]; omega
                    have SF := Lib.hid (show OfS w x6 p q #[.int .i64 p, .int .i64 q, .int .i64 (ofC p q z (k + 1)), .int .i64 (ofI p q z (k + 1)), .int .i64 (ofO p q z (k + 1)), .int .i64 (ofW p q z (k + 1)), .int .i64 (ofB p q z (k + 1))] from by rw [EB]; exact S.out)
                    clear S T EB
                    go_wp2_with fail
                    go_roundg (n - (k + 1))
                    case measure => omega
                    case rel => exact ⟨k + 1, by omega, rfl, by go_num, SF⟩
    · obtain rfl : k = n := by omega
      have r0 := HS.out.r.cell 0
      have o0 := HS.out.o.cell 0
      have v0 := HS.out.o.frozen 0
      have r1 := HS.out.r.cell 1
      have o1 := HS.out.o.cell 1
      have v1 := HS.out.o.frozen 1
      have r2 := HS.out.r.cell 2
      have o2 := HS.out.o.cell 2
      have v2 := HS.out.o.frozen 2
      have r3 := HS.out.r.cell 3
      have o3 := HS.out.o.cell 3
      have v3 := HS.out.o.frozen 3
      have r4 := HS.out.r.cell 4
      have o4 := HS.out.o.cell 4
      have v4 := HS.out.o.frozen 4
      have r5 := HS.out.r.cell 5
      have o5 := HS.out.o.cell 5
      have v5 := HS.out.o.frozen 5
      have r6 := HS.out.r.cell 6
      have o6 := HS.out.o.cell 6
      have v6 := HS.out.o.frozen 6
      have n1 : w.heap.size + 1 ≠ w.heap.size + 1 + 1 := by omega
      go_wp2_with fail
      refine bodyPost_ret (v := .agg #[.int .i64 p, .int .i64 q, .int .i64 (ofC p q z k), .int .i64 (ofI p q z k), .int .i64 (ofO p q z k), .int .i64 (ofW p q z k), .int .i64 (ofB p q z k)]) (by simp [results, Try.results5, go_sem, *]) rfl ⟨rfl, ?_⟩
      have hl : w.heap.size ≤ w.heap.size + 1 := by omega
      exact (((((((HS.out.e.setCell hl _).setCell hl _).setCell hl _).setCell hl _).setCell hl _).setCell hl _).setCell hl _)
end Go.Proofs.Ytffcmfpadaebdab
