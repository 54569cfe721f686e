/- What a car sees. -/
import Derived.Test.YtffcmfpadaebdaaRows
import Derived.Test.YtffcmfpadaebdaaKitM
import Derived.Test.YtffcmfpadaebdaaBitM
import Derived.Test.YtffcmfpadaebdaaCarM
import Derived.Test.YtffcmfpadaebdaaFaceB
import Derived.WalkKit
import Derived.DeepKeys
import Derived.Deep.LoopGhost
import Derived.IntWalk
import Derived.Lib.Hide
import Derived.WalkSpells
import Derived.WalkLawsBesides
import Derived.Laws.CopyOwn
import Derived.Deep.QuietTactic
import Derived.Deep.RegionHeld3
import Derived.BigQuiet
import Derived.BigRegion
namespace Go.Proofs.Ytffcmfpadaebdaa
open Go.RowKit
set_option linter.unusedSimpArgs false
set_option linter.unusedVariables false
set_option maxRecDepth 100000 in
set_option maxHeartbeats 2000000 in
theorem see_any (p d md l : Int) (wa : Bool) (A : Option Addr) (n c : Nat) (z : Nat → Nat → Int) (cap : Int) (U D : Nat → Bool) (w : World) (hr : RdZ w 2 A n z) (hl : n ≤ 1000000) :
    Calls Try.prog 25 #[carV p d md l wa A n c, .int .i64 cap, setV U, setV D] w fun e w' => e = .returned (sgtV (waF z n cap U D) (laF n cap U) (laF n cap D)) ∧ Below w.heap.size w w' := by
  have HR := Lib.hid hr
  have WO := fun w hr => wof_any p d md l wa A n c z cap U D w hr hl
  have LU := fun w => lands_any p d md l wa A n c cap U w
  have LD := fun w => lands_any p d md l wa A n c cap D w
  unfold sgtV carV setV at *
  obtain ⟨a0, ha0⟩ : ∃ x, wordX U = x := ⟨_, rfl⟩
  obtain ⟨a1, ha1⟩ : ∃ x, wordY U = x := ⟨_, rfl⟩
  obtain ⟨b0, hb0⟩ : ∃ x, wordX D = x := ⟨_, rfl⟩
  obtain ⟨b1, hb1⟩ : ∃ x, wordY D = x := ⟨_, rfl⟩
  obtain ⟨r0, hr0⟩ : ∃ x, wordX (laF n cap U) = x := ⟨_, rfl⟩
  obtain ⟨r1, hr1⟩ : ∃ x, wordY (laF n cap U) = x := ⟨_, rfl⟩
  obtain ⟨l0, hl0⟩ : ∃ x, wordX (laF n cap D) = x := ⟨_, rfl⟩
  obtain ⟨l1, hl1⟩ : ∃ x, wordY (laF n cap D) = x := ⟨_, rfl⟩
  obtain ⟨t0, ht0⟩ : ∃ x, wordX (waF z n cap U D) = x := ⟨_, rfl⟩
  obtain ⟨t1, ht1⟩ : ∃ x, wordY (waF z n cap U D) = x := ⟨_, rfl⟩
  simp only [ha0, ha1, hb0, hb1, hr0, hr1, hl0, hl1, ht0, ht1] at WO LU LD ⊢
  replace WO := Lib.hid WO
  replace LU := Lib.hid LU
  replace LD := Lib.hid LD
  clear ha0 ha1 hb0 hb1 hr0 hr1 hl0 hl1 ht0 ht1 hr
  go_enter Try.func25, Try.ntmps25
  go_wp2_with fail
  have B0 := ((Blk.new w #[.int .i64 p, .int .i64 d, .int .i64 md, .int .i64 l, .bool wa, .slice A n c] 29).alloc (.cells #[.int .u64 a0, .int .u64 a1] 32)).alloc (.cells #[.int .u64 b0, .int .u64 b1] 32) |>.alloc (.cells #[.int .u64 0, .int .u64 0, .int .u64 0, .int .u64 0, .int .u64 0, .int .u64 0] 56)
  have B1 := ((Blk.new (w.alloc (.cells #[.int .i64 p, .int .i64 d, .int .i64 md, .int .i64 l, .bool wa, .slice A n c] 29)) #[.int .u64 a0, .int .u64 a1] 32).alloc (.cells #[.int .u64 b0, .int .u64 b1] 32)).alloc (.cells #[.int .u64 0, .int .u64 0, .int .u64 0, .int .u64 0, .int .u64 0, .int .u64 0] 56)
  have B2 := (Blk.new ((w.alloc (.cells #[.int .i64 p, .int .i64 d, .int .i64 md, .int .i64 l, .bool wa, .slice A n c] 29)).alloc (.cells #[.int .u64 a0, .int .u64 a1] 32)) #[.int .u64 b0, .int .u64 b1] 32).alloc (.cells #[.int .u64 0, .int .u64 0, .int .u64 0, .int .u64 0, .int .u64 0, .int .u64 0] 56)
  have B3 := Blk.new (((w.alloc (.cells #[.int .i64 p, .int .i64 d, .int .i64 md, .int .i64 l, .bool wa, .slice A n c] 29)).alloc (.cells #[.int .u64 a0, .int .u64 a1] 32)).alloc (.cells #[.int .u64 b0, .int .u64 b1] 32)) #[.int .u64 0, .int .u64 0, .int .u64 0, .int .u64 0, .int .u64 0, .int .u64 0] 56
  have BE : Below w.heap.size w ((((w.alloc (.cells #[.int .i64 p, .int .i64 d, .int .i64 md, .int .i64 l, .bool wa, .slice A n c] 29)).alloc (.cells #[.int .u64 a0, .int .u64 a1] 32)).alloc (.cells #[.int .u64 b0, .int .u64 b1] 32)).alloc (.cells #[.int .u64 0, .int .u64 0, .int .u64 0, .int .u64 0, .int .u64 0, .int .u64 0] 56)) := ((((Below.refl w.heap.size w).alloc (Nat.le_refl _) _).alloc (by simp) _).alloc (by simp; omega) _).alloc (by simp; omega) _
  rw [World.size_alloc] at B1
  rw [World.size_alloc, World.size_alloc] at B2
  rw [World.size_alloc, World.size_alloc, World.size_alloc] at B3
  obtain ⟨V, hV⟩ : ∃ V, (((w.alloc (.cells #[.int .i64 p, .int .i64 d, .int .i64 md, .int .i64 l, .bool wa, .slice A n c] 29)).alloc (.cells #[.int .u64 a0, .int .u64 a1] 32)).alloc (.cells #[.int .u64 b0, .int .u64 b1] 32)).alloc (.cells #[.int .u64 0, .int .u64 0, .int .u64 0, .int .u64 0, .int .u64 0, .int .u64 0] 56) = V := ⟨_, rfl⟩
  rw [hV] at B0 B1 B2 B3 BE ⊢
  have k0 : V.cell? ⟨w.heap.size, 0, none⟩ = some (.int .i64 p) := B0.cell 0
  have k1 : V.cell? ⟨w.heap.size, 1, none⟩ = some (.int .i64 d) := B0.cell 1
  have k2 : V.cell? ⟨w.heap.size, 2, none⟩ = some (.int .i64 md) := B0.cell 2
  have k3 : V.cell? ⟨w.heap.size, 3, none⟩ = some (.int .i64 l) := B0.cell 3
  have k4 : V.cell? ⟨w.heap.size, 4, none⟩ = some (.bool wa) := B0.cell 4
  have k5 : V.cell? ⟨w.heap.size, 5, none⟩ = some (.slice A n c) := B0.cell 5
  obtain ⟨u0, u1, _, _⟩ := B1.two
  obtain ⟨m0, m1, _, _⟩ := B2.two
  have BEh := Lib.hid BE
  have HRV : Hid (RdZ V.drew 2 A n z) := Lib.hid (HR.out.kept BE.drew)
  have RBV : Hid (Blk V.drew (w.heap.size + 1 + 1 + 1) 56 #[.int .u64 0, .int .u64 0, .int .u64 0, .int .u64 0, .int .u64 0, .int .u64 0]) := Lib.hid B3.drew
  have ne0 : w.heap.size ≠ w.heap.size + 1 + 1 + 1 := by omega
  have ne1 : w.heap.size + 1 ≠ w.heap.size + 1 + 1 + 1 := by omega
  have ne5 : w.heap.size ≠ w.heap.size + 1 + 1 := by omega
  have ne6 : w.heap.size + 1 + 1 ≠ w.heap.size := by omega
  have ne3 : w.heap.size + 1 + 1 + 1 ≠ w.heap.size := by omega
  have ne4 : w.heap.size + 1 + 1 + 1 ≠ w.heap.size + 1 := by omega
  clear hV B0 B1 B2 B3 BE
  go_region_held3 (fun W => W.cell? ⟨w.heap.size, 0, none⟩ = some (.int .i64 p) ∧ W.cell? ⟨w.heap.size, 1, none⟩ = some (.int .i64 d) ∧ W.cell? ⟨w.heap.size, 2, none⟩ = some (.int .i64 md) ∧ W.cell? ⟨w.heap.size, 3, none⟩ = some (.int .i64 l) ∧ W.cell? ⟨w.heap.size, 4, none⟩ = some (.bool wa) ∧ W.cell? ⟨w.heap.size, 5, none⟩ = some (.slice A n c) ∧ W.cell? ⟨w.heap.size + 1, 0, none⟩ = some (.int .u64 a0) ∧ W.cell? ⟨w.heap.size + 1, 1, none⟩ = some (.int .u64 a1) ∧ W.cell? ⟨w.heap.size + 1 + 1, 0, none⟩ = some (.int .u64 b0) ∧ W.cell? ⟨w.heap.size + 1 + 1, 1, none⟩ = some (.int .u64 b1))
    (go_keep)
    (first
      | (go_at_call 40; refine (WO.out (V.drew) HRV.out).mono ?_; rintro e v1 ⟨rfl, hb⟩; have nk00 := Lib.hid (bkeep (w := V.drew) hb k0); have nk10 := Lib.hid (bkeep (w := V.drew) hb k1); have nk20 := Lib.hid (bkeep (w := V.drew) hb k2); have nk30 := Lib.hid (bkeep (w := V.drew) hb k3); have nk40 := Lib.hid (bkeep (w := V.drew) hb k4); have nk50 := Lib.hid (bkeep (w := V.drew) hb k5); have nu00 := Lib.hid (bkeep (w := V.drew) hb u0); have nu10 := Lib.hid (bkeep (w := V.drew) hb u1); have nm00 := Lib.hid (bkeep (w := V.drew) hb m0); have nm10 := Lib.hid (bkeep (w := V.drew) hb m1); clear k0 k1 k2 k3 k4 k5 u0 u1 m0 m1; have k0 := nk00.out; have k1 := nk10.out; have k2 := nk20.out; have k3 := nk30.out; have k4 := nk40.out; have k5 := nk50.out; have u0 := nu00.out; have u1 := nu10.out; have m0 := nm00.out; have m1 := nm10.out; have Q0 := Lib.hid (RBV.out.next hb); have BEh1 := Lib.hid ((BEh.out.drew).trans (hb.mono (BEh.out.drew).size)); clear hb)
      | (go_at_call_of 41 (Value.int IntKind.u64 (a0 : Int)); refine (LU.out (v1)).mono ?_; rintro e v2 ⟨rfl, hb⟩; have nk01 := Lib.hid (bkeep (w := v1) hb k0); have nk11 := Lib.hid (bkeep (w := v1) hb k1); have nk21 := Lib.hid (bkeep (w := v1) hb k2); have nk31 := Lib.hid (bkeep (w := v1) hb k3); have nk41 := Lib.hid (bkeep (w := v1) hb k4); have nk51 := Lib.hid (bkeep (w := v1) hb k5); have nu01 := Lib.hid (bkeep (w := v1) hb u0); have nu11 := Lib.hid (bkeep (w := v1) hb u1); have nm01 := Lib.hid (bkeep (w := v1) hb m0); have nm11 := Lib.hid (bkeep (w := v1) hb m1); clear k0 k1 k2 k3 k4 k5 u0 u1 m0 m1; have k0 := nk01.out; have k1 := nk11.out; have k2 := nk21.out; have k3 := nk31.out; have k4 := nk41.out; have k5 := nk51.out; have u0 := nu01.out; have u1 := nu11.out; have m0 := nm01.out; have m1 := nm11.out; have Q1 := Lib.hid (Q0.out.next hb); have BEh2 := Lib.hid (BEh1.out.trans (hb.mono BEh1.out.size)); clear hb)
      | (go_at_call_of 41 (Value.int IntKind.u64 (b0 : Int)); refine (LD.out (v2)).mono ?_; rintro e v3 ⟨rfl, hb⟩; have nk02 := Lib.hid (bkeep (w := v2) hb k0); have nk12 := Lib.hid (bkeep (w := v2) hb k1); have nk22 := Lib.hid (bkeep (w := v2) hb k2); have nk32 := Lib.hid (bkeep (w := v2) hb k3); have nk42 := Lib.hid (bkeep (w := v2) hb k4); have nk52 := Lib.hid (bkeep (w := v2) hb k5); have nu02 := Lib.hid (bkeep (w := v2) hb u0); have nu12 := Lib.hid (bkeep (w := v2) hb u1); have nm02 := Lib.hid (bkeep (w := v2) hb m0); have nm12 := Lib.hid (bkeep (w := v2) hb m1); clear k0 k1 k2 k3 k4 k5 u0 u1 m0 m1; have k0 := nk02.out; have k1 := nk12.out; have k2 := nk22.out; have k3 := nk32.out; have k4 := nk42.out; have k5 := nk52.out; have u0 := nu02.out; have u1 := nu12.out; have m0 := nm02.out; have m1 := nm12.out; have Q2 := (Q1.out.next hb); have rs0 := Q2.cell 0; have rf0 := Q2.frozen 0; have rs1 := Q2.cell 1; have rf1 := Q2.frozen 1; have rs2 := Q2.cell 2; have rf2 := Q2.frozen 2; have rs3 := Q2.cell 3; have rf3 := Q2.frozen 3; have rs4 := Q2.cell 4; have rf4 := Q2.frozen 4; have rs5 := Q2.cell 5; have rf5 := Q2.frozen 5; clear Q2; have BEh3 := Lib.hid (BEh2.out.trans (hb.mono BEh2.out.size)); clear hb))
  go_wp2_with fail
  refine bodyPost_ret (v := .agg #[.int .u64 t0, .int .u64 t1, .int .u64 r0, .int .u64 r1, .int .u64 l0, .int .u64 l1]) (by simp [results, Try.results25, go_sem, *]) rfl ⟨rfl, ((((((BEh3.out.setCell (p := ⟨w.heap.size + 1 + 1 + 1, 0, none⟩) (by show w.heap.size ≤ w.heap.size + 1 + 1 + 1; omega) _).setCell (p := ⟨w.heap.size + 1 + 1 + 1, 1, none⟩) (by show w.heap.size ≤ w.heap.size + 1 + 1 + 1; omega) _).setCell (p := ⟨w.heap.size + 1 + 1 + 1, 2, none⟩) (by show w.heap.size ≤ w.heap.size + 1 + 1 + 1; omega) _).setCell (p := ⟨w.heap.size + 1 + 1 + 1, 3, none⟩) (by show w.heap.size ≤ w.heap.size + 1 + 1 + 1; omega) _).setCell (p := ⟨w.heap.size + 1 + 1 + 1, 4, none⟩) (by show w.heap.size ≤ w.heap.size + 1 + 1 + 1; omega) _).setCell (p := ⟨w.heap.size + 1 + 1 + 1, 5, none⟩) (by show w.heap.size ≤ w.heap.size + 1 + 1 + 1; omega) _)⟩
end Go.Proofs.Ytffcmfpadaebdaa
