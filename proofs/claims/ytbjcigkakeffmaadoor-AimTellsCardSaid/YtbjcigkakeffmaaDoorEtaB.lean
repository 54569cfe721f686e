/- eta: do stops lie within a building, the chapter's example, more stops. -/
import Derived.Test.YtbjcigkakeffmaaDoorRows
import Derived.Test.YtbjcigkakeffmaaDoorKitM
import Derived.Test.YtbjcigkakeffmaaDoorCmp
import Derived.Test.YtbjcigkakeffmaaDoorPlaceA
import Derived.Test.YtbjcigkakeffmaaDoorVetA
import Derived.Test.YtbjcigkakeffmaaDoorVetB
import Derived.Test.YtbjcigkakeffmaaDoorNearMath
import Derived.Test.YtbjcigkakeffmaaDoorNearA
import Derived.Test.YtbjcigkakeffmaaDoorNearB
import Derived.Test.YtbjcigkakeffmaaDoorNearC
import Derived.Test.YtbjcigkakeffmaaDoorNearG
import Derived.Test.YtbjcigkakeffmaaDoorBitM
import Derived.Test.YtbjcigkakeffmaaDoorBitsL
import Derived.Test.YtbjcigkakeffmaaDoorBitsN
import Derived.Test.YtbjcigkakeffmaaDoorBitsU
import Derived.Test.YtbjcigkakeffmaaDoorBitsV
import Derived.Test.YtbjcigkakeffmaaDoorBitsX
import Derived.Test.YtbjcigkakeffmaaDoorWantA
import Derived.Test.YtbjcigkakeffmaaDoorWantB
import Derived.Test.YtbjcigkakeffmaaDoorWantC
import Derived.WalkKit
import Derived.IntWalk
import Derived.Lib.Hide
import Derived.WalkSpells
import Derived.WalkLawsBesides
import Derived.Laws.CopyOwn
import Derived.Laws.MakeOwn
import Derived.Laws.OwnMore
import Derived.OwnWalk
import Derived.Deep.QuietTactic
import Derived.BigQuiet
import Derived.Deep.RegionHeld3
import Derived.Below
import Derived.Test.YtbjcigkakeffmaaDoorEtaA
import Derived.Deep.LoopGhost
namespace Go.Proofs.YtbjcigkakeffmaaDoor
open Go.RowKit Go.Shelf
set_option linter.unusedSimpArgs false
set_option linter.unusedVariables false
theorem su64_cmp (d : Nat) (a b : Int) (w : World) : (Op.equalIn (d + 1) 38 (.int .u64 a) (.int .u64 b)).run Tryd.prog w = .ok (a == b) w := by
  simp [Op.equalIn, run_underlying Tryd.underlying38]
theorem sset_cmp0 (d : Nat) (x y a b : Int) (w : World) : (Op.equalIn (d + 1 + 1) 40 (.agg #[.int .u64 x, .int .u64 y]) (.agg #[.int .u64 a, .int .u64 b])).run Tryd.prog w = .ok (x == a && y == b) w := by
  obtain ⟨i, hi⟩ : ∃ i, Tryd.prog.info? 38 = some i := Option.isSome_iff_exists.1 (by kernel_rfl)
  have hc : Tryd.prog.cellsOf 38 = 1 := by kernel_rfl
  have p0 : (part 38 #[(.int .u64 x : Value), .int .u64 y] 0).run Tryd.prog w = .ok (.int .u64 x) w := by kernel_rfl
  have p1 : (part 38 #[(.int .u64 x : Value), .int .u64 y] 1).run Tryd.prog w = .ok (.int .u64 y) w := by kernel_rfl
  have q0 : (part 38 #[(.int .u64 a : Value), .int .u64 b] 0).run Tryd.prog w = .ok (.int .u64 a) w := by kernel_rfl
  have q1 : (part 38 #[(.int .u64 a : Value), .int .u64 b] 1).run Tryd.prog w = .ok (.int .u64 b) w := by kernel_rfl
  rw [run_equalIn_array (P := Tryd.prog) w (d + 1) _ _ Tryd.underlying40 hi, hc]
  show (Op.eqItems (d + 1) 38 1 _ _ [0, 1]).run Tryd.prog w = _
  simp only [Op.eqItems, Sem.run_bind, p0, p1, q0, q1, Nat.zero_mul, Nat.one_mul, su64_cmp, Result.andThen_ok]
  cases h : (x == a)
  · simp [p1, q1, su64_cmp]
  · simp [p1, q1, su64_cmp]
    split
    · rename_i hy; simp [hy]
    · rename_i hy; simp [hy]
theorem sset_cmp (x y a b : Int) (w : World) : (Op.equalIn 10000 40 (.agg #[.int .u64 x, .int .u64 y]) (.agg #[.int .u64 a, .int .u64 b])).run Tryd.prog w = .ok (x == a && y == b) w := sset_cmp0 9998 x y a b w
/-- the set at a place of a row -/
def setAt (z : Nat → Nat → Int) (i : Nat) : Nat → Bool := mem (z i 0).toNat (z i 1).toNat
def InS (s0 : Int) (z : Nat → Nat → Int) (k : Nat) : Prop := ∀ i, i < k → setV (cutF (setAt z i) 0 s0) = setV (setAt z i)
theorem inS_succ {s0 : Int} {z : Nat → Nat → Int} {k : Nat} (h : InS s0 z k) (h' : setV (cutF (setAt z k) 0 s0) = setV (setAt z k)) : InS s0 z (k + 1) := fun i hi => by
  by_cases e : i = k
  · rw [e]; exact h'
  · exact h i (by omega)
theorem set_words {w : World} {A : Option Addr} {n : Nat} {z : Nat → Nat → Int} (h : RdK w .u64 2 A n z) {i : Nat} (hi : i < n) : ∃ x y : Nat, z i 0 = x ∧ z i 1 = y ∧ Value.agg #[.int .u64 x, .int .u64 y] = setV (setAt z i) := by
  have u : ∀ {q : Int}, (Lit.int .u64 q).wf = true → 0 ≤ q ∧ q ≤ 18446744073709551615 := fun h => by simpa [Lit.wf, IntKind.min, IntKind.max, IntKind.signed, IntKind.bits] using h
  have h0 := u (h.wf hi (show 0 < 2 by decide))
  have h1 := u (h.wf hi (show 1 < 2 by decide))
  refine ⟨(z i 0).toNat, (z i 1).toNat, by omega, by omega, ?_⟩
  unfold setAt
  exact setV_mem (by omega) (by omega)
def StR (s0 : Int) (z : Nat → Nat → Int) (k : Nat) (w : World) (e : Ending) (w' : World) : Prop := ∃ b, e = .returned (.bool b) ∧ Below w.heap.size w w' ∧ (b = true → k ≤ 20 ∧ InS s0 z k)
set_option maxRecDepth 100000 in
set_option maxHeartbeats 4000000 in
theorem stops_any (s : Nat → Int) (A : Option Addr) (n c : Nat) (C : Option Addr) (k d : Nat) (z : Nat → Nat → Int) (w : World) (hv : RdK w .u64 2 C k z) (hd : k ≤ d) (hd' : d ≤ maxLen) :
    Calls Tryd.prog 6 #[scnV s A n c, .slice C k d] w (StR (s 0) z k w) := by
  have HB0 := Lib.hid ((Below.refl w.heap.size w).alloc (Nat.le_refl _) (.cells (scnC s A n c) 25))
  have BX := Lib.hid (box_new w (scnC s A n c) 25)
  have HRV := Lib.hid (hv.kept HB0.out)
  have hkm : k ≤ 9223372036854775807 := by unfold maxLen at hd'; omega
  clear hv
  unfold scnV
  by_cases hk : k ≤ 20
  · have FIN := Lib.hid (show ∀ X, Below w.heap.size w X → InS (s 0) z k → StR (s 0) z k w (.returned (.bool true)) X from fun X h1 h2 => ⟨true, rfl, h1, fun _ => ⟨hk, h2⟩⟩)
    have NO := Lib.hid (show ∀ X, Below w.heap.size w X → StR (s 0) z k w (.returned (.bool false)) X from fun X h1 => ⟨false, rfl, h1, fun h => by cases h⟩)
    go_enter Tryd.func6, Tryd.ntmps6
    go_wp2_with fail
    obtain ⟨W1, hW1⟩ : ∃ W1, w.alloc (.cells (scnC s A n c) 25) = W1 := ⟨_, rfl⟩
    unfold scnC at hW1 HB0 BX HRV
    rw [hW1] at HB0 BX HRV ⊢
    clear hW1
    go_loopw [5] (fun i wr => ∃ j : Nat, j ≤ k ∧ i = .int .i64 j ∧ Hid (InS (s 0) z j) ∧ Below W1.heap.size W1 wr) (fun i _ => k - (intOf i).toNat)
    case atStart => exact ⟨0, by omega, rfl, Lib.hid (fun i hi => absurd hi (by omega)), Below.refl _ _⟩
    case round =>
      obtain ⟨j, hj, rfl, HI, hb⟩ := hrel
      have HB := Lib.hid hb
      have BW := Lib.hid (HB0.out.trans (hb.mono HB0.out.size))
      by_cases h : j < k
      · have RV := HRV.out.kept hb
        obtain ⟨b, off, rfl, hlt, hcl⟩ := rdK_row RV (by omega) (by omega)
        obtain ⟨x, y, ex, ey, eS⟩ := set_words RV h
        have g0 : wr.cell? ⟨b, off + j * 2, none⟩ = some (.int .u64 x) := (hcl j 0 h (by omega)).trans (by rw [ex])
        have g1 : wr.cell? ⟨b, off + j * 2 + 1, none⟩ = some (.int .u64 y) := (hcl j 1 h (by omega)).trans (by rw [ey])
        have X2 := BX.out.next hb
        have KR := fun w => rrange_any (setAt z j) 0 (s 0) w
        have QS : setV (cutF (setAt z j) 0 (s 0)) = setV (setAt z j) → InS (s 0) z (j + 1) := fun h => inS_succ HI.out h
        rw [← eS] at KR QS
        unfold setV at KR QS
        obtain ⟨p, hp⟩ : ∃ p, wordX (cutF (setAt z j) 0 (s 0)) = p := ⟨_, rfl⟩
        obtain ⟨q, hq⟩ : ∃ p, wordY (cutF (setAt z j) 0 (s 0)) = p := ⟨_, rfl⟩
        rw [hp, hq] at KR QS
        have HR := Lib.hid KR
        have CM := sset_cmp p q x y
        have f0 : wr.cell? ⟨w.heap.size, 0, none⟩ = some (.int .i64 (s 0)) := X2 0 _ rfl
        have f1 : wr.cell? ⟨w.heap.size, 1, none⟩ = some (.int .i64 (s 1)) := X2 1 _ rfl
        have f2 : wr.cell? ⟨w.heap.size, 2, none⟩ = some (.int .i64 (s 2)) := X2 2 _ rfl
        have f3 : wr.cell? ⟨w.heap.size, 3, none⟩ = some (.int .i64 (s 3)) := X2 3 _ rfl
        have f4 : wr.cell? ⟨w.heap.size, 4, none⟩ = some (.int .i64 (s 4)) := X2 4 _ rfl
        have f5 : wr.cell? ⟨w.heap.size, 5, none⟩ = some (.int .i64 (s 5)) := X2 5 _ rfl
        have f6 : wr.cell? ⟨w.heap.size, 6, none⟩ = some (.int .i64 (s 6)) := X2 6 _ rfl
        have f7 : wr.cell? ⟨w.heap.size, 7, none⟩ = some (.int .i64 (s 7)) := X2 7 _ rfl
        have f8 : wr.cell? ⟨w.heap.size, 8, none⟩ = some (.slice A n c) := X2 8 _ rfl
        have f9 : wr.cell? ⟨w.heap.size, 9, none⟩ = some (.int .i64 (s 9)) := X2 9 _ rfl
        have f10 : wr.cell? ⟨w.heap.size, 10, none⟩ = some (.int .i64 (s 10)) := X2 10 _ rfl
        have f11 : wr.cell? ⟨w.heap.size, 11, none⟩ = some (.int .i64 (s 11)) := X2 11 _ rfl
        have f12 : wr.cell? ⟨w.heap.size, 12, none⟩ = some (.int .i64 (s 12)) := X2 12 _ rfl
        have hgs : w.heap.size < wr.heap.size := lt_of_cell f0
        have j0 : (0 : Int) ≤ (j : Int) := Int.natCast_nonneg _
        have j1 : (j : Int) < (k : Int) := by omega
        have HQ := Lib.hid QS
        clear RV hcl ex ey eS X2 KR QS hp hq hb
        by_cases hqq : ((p : Int) == x && (q : Int) == y) = true
        · rw [hqq] at CM
          have HN : Hid (InS (s 0) z (j + 1)) := Lib.hid (HQ.out (by
            rw [Bool.and_eq_true, beq_iff_eq, beq_iff_eq] at hqq
            rw [hqq.1, hqq.2]))
          clear hqq HQ
          go_wp2_with fail
          go_region_held3 (fun X => X.cell? ⟨w.heap.size, 0, none⟩ = some (.int .i64 (s 0)) ∧ X.cell? ⟨w.heap.size, 1, none⟩ = some (.int .i64 (s 1)) ∧ X.cell? ⟨w.heap.size, 2, none⟩ = some (.int .i64 (s 2)) ∧ X.cell? ⟨w.heap.size, 3, none⟩ = some (.int .i64 (s 3)) ∧ X.cell? ⟨w.heap.size, 4, none⟩ = some (.int .i64 (s 4)) ∧ X.cell? ⟨w.heap.size, 5, none⟩ = some (.int .i64 (s 5)) ∧ X.cell? ⟨w.heap.size, 6, none⟩ = some (.int .i64 (s 6)) ∧ X.cell? ⟨w.heap.size, 7, none⟩ = some (.int .i64 (s 7)) ∧ X.cell? ⟨w.heap.size, 8, none⟩ = some (.slice A n c) ∧ X.cell? ⟨w.heap.size, 9, none⟩ = some (.int .i64 (s 9)) ∧ X.cell? ⟨w.heap.size, 10, none⟩ = some (.int .i64 (s 10)) ∧ X.cell? ⟨w.heap.size, 11, none⟩ = some (.int .i64 (s 11)) ∧ X.cell? ⟨w.heap.size, 12, none⟩ = some (.int .i64 (s 12)) ∧ X.cell? ⟨b, off + j * 2, none⟩ = some (.int .u64 x) ∧ X.cell? ⟨b, off + j * 2 + 1, none⟩ = some (.int .u64 y))
            (go_keep)
            (first
              | (go_at_call 20; refine (HR.out _).mono ?_; rintro e v1 ⟨rfl, hb1⟩; have nf0 := Lib.hid (bkeep (w := wr.drew) hb1 f0); have nf1 := Lib.hid (bkeep (w := wr.drew) hb1 f1); have nf2 := Lib.hid (bkeep (w := wr.drew) hb1 f2); have nf3 := Lib.hid (bkeep (w := wr.drew) hb1 f3); have nf4 := Lib.hid (bkeep (w := wr.drew) hb1 f4); have nf5 := Lib.hid (bkeep (w := wr.drew) hb1 f5); have nf6 := Lib.hid (bkeep (w := wr.drew) hb1 f6); have nf7 := Lib.hid (bkeep (w := wr.drew) hb1 f7); have nf8 := Lib.hid (bkeep (w := wr.drew) hb1 f8); have nf9 := Lib.hid (bkeep (w := wr.drew) hb1 f9); have nf10 := Lib.hid (bkeep (w := wr.drew) hb1 f10); have nf11 := Lib.hid (bkeep (w := wr.drew) hb1 f11); have nf12 := Lib.hid (bkeep (w := wr.drew) hb1 f12); have ng0 := Lib.hid (bkeep (w := wr.drew) hb1 g0); have ng1 := Lib.hid (bkeep (w := wr.drew) hb1 g1); clear f0 f1 f2 f3 f4 f5 f6 f7 f8 f9 f10 f11 f12 g0 g1; have f0 := nf0.out; have f1 := nf1.out; have f2 := nf2.out; have f3 := nf3.out; have f4 := nf4.out; have f5 := nf5.out; have f6 := nf6.out; have f7 := nf7.out; have f8 := nf8.out; have f9 := nf9.out; have f10 := nf10.out; have f11 := nf11.out; have f12 := nf12.out; have g0 := ng0.out; have g1 := ng1.out; clear nf0 nf1 nf2 nf3 nf4 nf5 nf6 nf7 nf8 nf9 nf10 nf11 nf12 ng0 ng1))
          have U1 := Lib.hid (HB.out.drew.trans (hb1.mono HB.out.drew.size))
          clear hb1
          go_wp2_with fail
          go_roundw
          case rel => exact ⟨j + 1, by omega, by go_num, HN, U1.out⟩
          case measure => simp [intOf]; omega
        · rw [Bool.not_eq_true] at hqq
          rw [hqq] at CM
          clear hqq HQ
          go_wp2_with fail
          go_region_held3 (fun X => X.cell? ⟨w.heap.size, 0, none⟩ = some (.int .i64 (s 0)) ∧ X.cell? ⟨w.heap.size, 1, none⟩ = some (.int .i64 (s 1)) ∧ X.cell? ⟨w.heap.size, 2, none⟩ = some (.int .i64 (s 2)) ∧ X.cell? ⟨w.heap.size, 3, none⟩ = some (.int .i64 (s 3)) ∧ X.cell? ⟨w.heap.size, 4, none⟩ = some (.int .i64 (s 4)) ∧ X.cell? ⟨w.heap.size, 5, none⟩ = some (.int .i64 (s 5)) ∧ X.cell? ⟨w.heap.size, 6, none⟩ = some (.int .i64 (s 6)) ∧ X.cell? ⟨w.heap.size, 7, none⟩ = some (.int .i64 (s 7)) ∧ X.cell? ⟨w.heap.size, 8, none⟩ = some (.slice A n c) ∧ X.cell? ⟨w.heap.size, 9, none⟩ = some (.int .i64 (s 9)) ∧ X.cell? ⟨w.heap.size, 10, none⟩ = some (.int .i64 (s 10)) ∧ X.cell? ⟨w.heap.size, 11, none⟩ = some (.int .i64 (s 11)) ∧ X.cell? ⟨w.heap.size, 12, none⟩ = some (.int .i64 (s 12)) ∧ X.cell? ⟨b, off + j * 2, none⟩ = some (.int .u64 x) ∧ X.cell? ⟨b, off + j * 2 + 1, none⟩ = some (.int .u64 y))
            (go_keep)
            (first
              | (go_at_call 20; refine (HR.out _).mono ?_; rintro e v1 ⟨rfl, hb1⟩; have nf0 := Lib.hid (bkeep (w := wr.drew) hb1 f0); have nf1 := Lib.hid (bkeep (w := wr.drew) hb1 f1); have nf2 := Lib.hid (bkeep (w := wr.drew) hb1 f2); have nf3 := Lib.hid (bkeep (w := wr.drew) hb1 f3); have nf4 := Lib.hid (bkeep (w := wr.drew) hb1 f4); have nf5 := Lib.hid (bkeep (w := wr.drew) hb1 f5); have nf6 := Lib.hid (bkeep (w := wr.drew) hb1 f6); have nf7 := Lib.hid (bkeep (w := wr.drew) hb1 f7); have nf8 := Lib.hid (bkeep (w := wr.drew) hb1 f8); have nf9 := Lib.hid (bkeep (w := wr.drew) hb1 f9); have nf10 := Lib.hid (bkeep (w := wr.drew) hb1 f10); have nf11 := Lib.hid (bkeep (w := wr.drew) hb1 f11); have nf12 := Lib.hid (bkeep (w := wr.drew) hb1 f12); have ng0 := Lib.hid (bkeep (w := wr.drew) hb1 g0); have ng1 := Lib.hid (bkeep (w := wr.drew) hb1 g1); clear f0 f1 f2 f3 f4 f5 f6 f7 f8 f9 f10 f11 f12 g0 g1; have f0 := nf0.out; have f1 := nf1.out; have f2 := nf2.out; have f3 := nf3.out; have f4 := nf4.out; have f5 := nf5.out; have f6 := nf6.out; have f7 := nf7.out; have f8 := nf8.out; have f9 := nf9.out; have f10 := nf10.out; have f11 := nf11.out; have f12 := nf12.out; have g0 := ng0.out; have g1 := ng1.out; clear nf0 nf1 nf2 nf3 nf4 nf5 nf6 nf7 nf8 nf9 nf10 nf11 nf12 ng0 ng1))
          have U1 := Lib.hid (BW.out.drew.trans (hb1.mono BW.out.drew.size))
          clear hb1
          go_wp2_with fail
          go_ret
          exact NO.out _ U1.out
      · obtain rfl : j = k := by omega
        go_wp2_with fail
        go_ret
        exact FIN.out _ BW.out HI.out
  · go_enter Tryd.func6, Tryd.ntmps6
    go_wp2_with fail
    go_ret
    exact ⟨false, rfl, HB0.out, fun h => by cases h⟩
theorem itL_none (k : Nat) : itL (fun _ => false) k = [] := by
  induction k with
  | zero => rfl
  | succ k ih => rw [itL_no rfl, ih]
theorem btP_none (a b : Int) : btP a b (itL (fun _ => false) 128) = 0 := by rw [itL_none]; rfl
theorem btP_more (a b : Int) (F G : Nat → Bool) (h : ∀ j, F j = true → G j = true) : ∀ k, btP a b (itL F k) ≤ btP a b (itL G k)
  | 0 => Nat.le_refl _
  | k + 1 => by
    have ih := btP_more a b F G h k
    cases hF : F k
    · rw [itL_no hF]
      cases hG : G k
      · rw [itL_no hG]; exact ih
      · rw [itL_yes hG]
        unfold btP at ih ⊢
        rw [List.filter_append, List.length_append]; omega
    · rw [itL_yes hF, itL_yes (h k hF)]
      unfold btP at ih ⊢
      rw [List.filter_append, List.filter_append, List.length_append, List.length_append]; omega
set_option maxHeartbeats 1000000 in
theorem ealive (w : World) (hT : TzT w) : Calls Tryd.prog 13 #[] w fun e w' => e = .returned (.bool true) ∧ Below w.heap.size w w' := by
  have KO := fun A w hT => eof0_any (fun j => if j = 0 then 5 else if j = 1 then 2 else if j = 10 then 9 else 1) A 1 1 0 0 false (.slice none 0 0) (fun _ => false) 3 1 6 0 0 w hT (by decide) (by decide) (by decide) (by decide) (by decide) (by decide) (by decide) (by decide) (by decide) (by decide) (by decide) (by decide) (by decide) (by decide)
  rw [btP_none] at KO
  have z : setV (fun _ => false) = .agg #[.int .u64 0, .int .u64 0] := by unfold setV; rw [word_none.1, word_none.2]; rfl
  rw [z] at KO
  unfold scnV carV at KO
  have HO := Lib.hid KO
  have BW := Lib.hid ((Below.refl w.heap.size w).alloc (Nat.le_refl _) (.cells #[.int .i64 1, .int .i64 1, .int .i64 0] 69))
  have HT := Lib.hid hT
  clear KO hT z
  go_enter Tryd.func13, Tryd.ntmps13
  go_wp2_with fail
  refine (HO.out _ _ (HT.out.kept BW.out)).mono ?_
  rintro e w1 ⟨rfl, hb⟩
  go_wp2_with fail
  go_ret
  exact ⟨rfl, BW.out.trans (hb.mono BW.out.size)⟩
end Go.Proofs.YtbjcigkakeffmaaDoor
