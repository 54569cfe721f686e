/- Legs: what a car does at the ticks of a span, tick by tick. -/
import Derived.Test.YtodfjghgcphhhaaRows
import Derived.Test.YtodfjghgcphhhaaRowKit
import Derived.Test.YtodfjghgcphhhaaRowS
import Derived.Test.YtodfjghgcphhhaaRowZ
import Derived.Test.YtodfjghgcphhhaaRowV
import Derived.Test.YtodfjghgcphhhaaRowW
import Derived.Test.YtodfjghgcphhhaaSlicesEq
import Derived.Test.YtodfjghgcphhhaaBlocks
import Derived.Test.YtodfjghgcphhhaaAtKit
import Derived.Test.YtodfjghgcphhhaaGanttMath
import Derived.Test.YtodfjghgcphhhaaTrackA
import Derived.WalkKit
import Derived.IntWalk
import Derived.Lib.Hide
import Derived.WalkSpells
import Derived.WalkLawsBesides
import Derived.OwnWalk
import Derived.Deep.QuietTactic
import Derived.BigQuiet
import Derived.Deep.RegionHeld3
import Derived.Deep.LoopGhost
import Derived.BigRegion
import Derived.Below
import Derived.Test.YtodfjghgcphhhaaTrackB
import Derived.Test.YtodfjghgcphhhaaGanttM2
import Derived.Test.YtodfjghgcphhhaaGanttB
namespace Go.Proofs.Ytodfjghgcphhhaa
open Go.RowKit
set_option linter.unusedSimpArgs false
set_option linter.unusedVariables false
theorem tick_none {T P D : Nat → Int} {O : Nat → Bool} {n : Nat} {t : Int} (h : lastL T t n = 0) : upL T P D O n t = 0 ∧ dnL T P D O n t = 0 ∧ doL T O n t = 0 := ⟨up00 _ _ _ _ _ _ h, dn00 _ _ _ _ _ _ h, do00 _ _ _ _ h⟩
theorem tick_door {T P D : Nat → Int} {O : Nat → Bool} {n : Nat} {t : Int} (h : dorL O (lastL T t n) = true) : upL T P D O n t = 0 ∧ dnL T P D O n t = 0 ∧ doL T O n t = 1 := by
  unfold upL dnL doL; rw [h]; simp
theorem tick_new {T P D : Nat → Int} {O : Nat → Bool} {n : Nat} {t : Int} (h : dorL O (lastL T t n) = false) (h0 : lastL T (t - 1) n = 0) : upL T P D O n t = 0 ∧ dnL T P D O n t = 0 ∧ doL T O n t = 0 := by
  unfold upL dnL doL cameL; rw [h, h0]; simp
theorem tick_goes {T P D : Nat → Int} {O : Nat → Bool} {n : Nat} {t p q : Int} (h : dorL O (lastL T t n) = false) (h1 : lastL T t n ≠ 0) (h0 : lastL T (t - 1) n ≠ 0) (hp : posL T P D t (lastL T t n) = p) (hq : posL T P D (t - 1) (lastL T (t - 1) n) = q) :
    upL T P D O n t = (if q < p then 1 else 0) ∧ dnL T P D O n t = (if p < q then 1 else 0) ∧ doL T O n t = 0 := by
  unfold upL dnL doL cameL
  rw [h, if_neg (show ¬ (lastL T (t - 1) n = 0 ∨ lastL T t n = 0) by omega), hp, hq]
  refine ⟨?_, ?_, by simp⟩
  · by_cases hh : q < p
    · rw [if_pos ⟨rfl, by omega⟩, if_pos hh]
    · rw [if_neg (fun h => by omega), if_neg hh]
  · by_cases hh : p < q
    · rw [if_pos ⟨rfl, by omega⟩, if_pos hh]
    · rw [if_neg (fun h => by omega), if_neg hh]
def CntD (T P D : Nat → Int) (O : Nat → Bool) (n : Nat) (f tt : Int) (w : World) (e : Ending) (w' : World) : Prop :=
  e = .returned (.agg #[.int .i64 (sumF (upL T P D O n) f (tt - f).toNat), .int .i64 (sumF (dnL T P D O n) f (tt - f).toNat), .int .i64 (sumF (doL T O n) f (tt - f).toNat)]) ∧ Below w.heap.size w w'
set_option maxRecDepth 100000 in
set_option maxHeartbeats 20000000 in
theorem dcount_any (A : Option Addr) (c n : Nat) (T P D : Nat → Int) (O : Nat → Bool) (f tt : Int) (w : World) (hr : RdL w A n T P D O) (hf : FineL T P D n) (s1 : -1048576 ≤ f) (s2 : f ≤ 1048576) (s3 : -1048576 ≤ tt) (s4 : tt ≤ f + 300) :
    Calls Try.prog 9 #[.slice A n c, .agg #[.int .i64 f, .int .i64 tt]] w (CntD T P D O n f tt w) := by
  have HR := Lib.hid hr; have HF := Lib.hid hf
  obtain ⟨M, hM⟩ : ∃ M, (tt - f).toNat = M := ⟨_, rfl⟩
  have hM3 : M ≤ 300 := by omega
  have HE : ∀ w', Below w.heap.size w w' → CntD T P D O n f tt w (.returned (.agg #[.int .i64 (sumF (upL T P D O n) f M), .int .i64 (sumF (dnL T P D O n) f M), .int .i64 (sumF (doL T O n) f M)])) w' := fun w' hb => by
    unfold CntD; rw [hM]; exact ⟨rfl, hb⟩
  have HEE := Lib.hid HE
  obtain ⟨RES, hRES⟩ : ∃ Q, CntD T P D O n f tt w = Q := ⟨_, rfl⟩
  rw [hRES] at HEE ⊢
  clear hr hf HE hRES
  go_enter Try.func9, Try.ntmps9
  go_wp2_with fail
  have BS := ((Blk.new w #[.int .i64 f, .int .i64 tt] 24).alloc (.cells #[.int .i64 0, .int .i64 0, .int .i64 0] 25)).alloc (.cells #[.int .i64 0, .int .i64 0, .int .i64 0] 25)
  have BQ := (Blk.new (w.alloc (.cells #[.int .i64 f, .int .i64 tt] 24)) #[.int .i64 0, .int .i64 0, .int .i64 0] 25).alloc (.cells #[.int .i64 0, .int .i64 0, .int .i64 0] 25)
  rw [World.size_alloc] at BQ
  have BN := Blk.new ((w.alloc (.cells #[.int .i64 f, .int .i64 tt] 24)).alloc (.cells #[.int .i64 0, .int .i64 0, .int .i64 0] 25)) #[.int .i64 0, .int .i64 0, .int .i64 0] 25
  rw [World.size_alloc, World.size_alloc] at BN
  have BE : Below w.heap.size w (((w.alloc (.cells #[.int .i64 f, .int .i64 tt] 24)).alloc (.cells #[.int .i64 0, .int .i64 0, .int .i64 0] 25)).alloc (.cells #[.int .i64 0, .int .i64 0, .int .i64 0] 25)) := (((Below.refl w.heap.size w).alloc (Nat.le_refl _) _).alloc (by simp <;> omega) _).alloc (by simp <;> omega) _
  obtain ⟨V0, hV0⟩ : ∃ V, (((w.alloc (.cells #[.int .i64 f, .int .i64 tt] 24)).alloc (.cells #[.int .i64 0, .int .i64 0, .int .i64 0] 25)).alloc (.cells #[.int .i64 0, .int .i64 0, .int .i64 0] 25)) = V := ⟨_, rfl⟩
  rw [hV0] at BS BQ BN BE ⊢
  have HS := Lib.hid BS
  have HQ := Lib.hid BQ
  have HN := Lib.hid BN
  have EE := Lib.hid BE
  have ne0_1 : w.heap.size ≠ w.heap.size + 1 := by omega
  have ne0_2 : w.heap.size ≠ w.heap.size + 1 + 1 := by omega
  have ne1_0 : w.heap.size + 1 ≠ w.heap.size := by omega
  have ne1_2 : w.heap.size + 1 ≠ w.heap.size + 1 + 1 := by omega
  have ne2_0 : w.heap.size + 1 + 1 ≠ w.heap.size := by omega
  have ne2_1 : w.heap.size + 1 + 1 ≠ w.heap.size + 1 := by omega
  clear hV0 BE BS BQ BN
  have kS0 : V0.cell? ⟨w.heap.size, 0, none⟩ = some (.int .i64 f) := HS.out.cell 0
  have kS1 : V0.cell? ⟨w.heap.size, 1, none⟩ = some (.int .i64 tt) := HS.out.cell 1
  have kQ0 : V0.cell? ⟨w.heap.size + 1, 0, none⟩ = some (.int .i64 0) := HQ.out.cell 0
  have kQ1 : V0.cell? ⟨w.heap.size + 1, 1, none⟩ = some (.int .i64 0) := HQ.out.cell 1
  have kQ2 : V0.cell? ⟨w.heap.size + 1, 2, none⟩ = some (.int .i64 0) := HQ.out.cell 2
  have kN0 : V0.cell? ⟨w.heap.size + 1 + 1, 0, none⟩ = some (.int .i64 0) := HN.out.cell 0
  have kN1 : V0.cell? ⟨w.heap.size + 1 + 1, 1, none⟩ = some (.int .i64 0) := HN.out.cell 1
  have kN2 : V0.cell? ⟨w.heap.size + 1 + 1, 2, none⟩ = some (.int .i64 0) := HN.out.cell 2
  clear kS0 kS1 kQ0 kQ1 kQ2 kN0 kN1 kN2
  go_loopw [6] (fun i wr => ∃ m : Nat, m ≤ M ∧ i = .int .i64 (f + m) ∧ Blk wr (w.heap.size + 1 + 1) 25 #[.int .i64 (sumF (upL T P D O n) f m), .int .i64 (sumF (dnL T P D O n) f m), .int .i64 (sumF (doL T O n) f m)] ∧ Blk wr w.heap.size 24 #[.int .i64 f, .int .i64 tt] ∧ Blk wr (w.heap.size + 1) 25 #[.int .i64 0, .int .i64 0, .int .i64 0] ∧ Below w.heap.size w wr) (fun i _ => M - (intOf i - f).toNat)
  case atStart => exact ⟨0, by omega, congrArg (Value.int .i64) (by omega), HN.out, HS.out, HQ.out, EE.out⟩
  case round =>
    obtain ⟨m, hm, rfl, hN, hS, hQ, hB⟩ := hrel
    have HN := Lib.hid hN; have HS := Lib.hid hS; have HQ := Lib.hid hQ; have EE := Lib.hid hB
    clear hN hS hQ hB
    have bpu := sumF_bd (upL T P D O n) f (up01 T P D O n) m
    have spu := sumF_succ (upL T P D O n) f m
    obtain ⟨pu, hpu⟩ : ∃ q, sumF (upL T P D O n) f m = q := ⟨_, rfl⟩
    have Hpu := Lib.hid hpu
    rw [hpu] at bpu spu HN
    have Spu := Lib.hid spu; clear spu hpu
    have bpd := sumF_bd (dnL T P D O n) f (dn01 T P D O n) m
    have spd := sumF_succ (dnL T P D O n) f m
    obtain ⟨pd, hpd⟩ : ∃ q, sumF (dnL T P D O n) f m = q := ⟨_, rfl⟩
    have Hpd := Lib.hid hpd
    rw [hpd] at bpd spd HN
    have Spd := Lib.hid spd; clear spd hpd
    have bpo := sumF_bd (doL T O n) f (do01 T O n) m
    have spo := sumF_succ (doL T O n) f m
    obtain ⟨po, hpo⟩ : ∃ q, sumF (doL T O n) f m = q := ⟨_, rfl⟩
    have Hpo := Lib.hid hpo
    rw [hpo] at bpo spo HN
    have Spo := Lib.hid spo; clear spo hpo
    by_cases h : m < M
    · have hyt : f + (m : Int) < tt := by omega
      have wt : IntKind.i64.wrap (f + (m : Int) - 1) = f + (m : Int) - 1 := IntWalk.i64_in _ (by omega)
      have wt2 : IntKind.i64.wrap (f + (m : Int) + 1) = f + (m : Int) + 1 := IntWalk.i64_in _ (by omega)
      obtain ⟨t, ht⟩ : ∃ t, f + (m : Int) = t := ⟨_, rfl⟩
      have HT := Lib.hid ht
      rw [ht] at hyt wt wt2 Spu Spd Spo
      have K1 := Lib.hid (fun W hr => dat_any A c n T P D O t W hr HF.out (by omega) (by omega))
      have K2 := Lib.hid (fun W hr => dat_any A c n T P D O (t - 1) W hr HF.out (by omega) (by omega))
      obtain ⟨r1, h1⟩ : ∃ q, lastL T (t - 1) n = q := ⟨_, rfl⟩
      obtain ⟨r2, h2⟩ : ∃ q, lastL T t n = q := ⟨_, rfl⟩
      obtain ⟨p1, h3⟩ : ∃ q, posL T P D (t - 1) r1 = q := ⟨_, rfl⟩
      obtain ⟨p2, h4⟩ : ∃ q, posL T P D t r2 = q := ⟨_, rfl⟩
      obtain ⟨d1, h5⟩ : ∃ q, dorL O r1 = q := ⟨_, rfl⟩
      obtain ⟨d2, h6⟩ : ∃ q, dorL O r2 = q := ⟨_, rfl⟩
      rw [h1, h3, h5] at K2
      rw [h2, h4, h6] at K1
      have G1 := Lib.hid h1; have G2 := Lib.hid h2; have G3 := Lib.hid h3; have G4 := Lib.hid h4; have G6 := Lib.hid h6
      rw [ht]
      clear h1 h2 h3 h4 h5 h6 ht
      by_cases z2 : r2 = 0
      · subst z2
        have TF := tick_none (P := P) (D := D) (O := O) G2.out
        have E1 := Lib.hid (show sumF (upL T P D O n) f (m + 1) = pu by (rw [Spu.out, TF.1]) <;> (first | rfl | omega | (split <;> omega)))
        have E2 := Lib.hid (show sumF (dnL T P D O n) f (m + 1) = pd by (rw [Spd.out, TF.2.1]) <;> (first | rfl | omega | (split <;> omega)))
        have E3 := Lib.hid (show sumF (doL T O n) f (m + 1) = po by (rw [Spo.out, TF.2.2]) <;> (first | rfl | omega))
        clear TF
        have kS0 : wr.cell? ⟨w.heap.size, 0, none⟩ = some (.int .i64 f) := HS.out.cell 0
        have kS1 : wr.cell? ⟨w.heap.size, 1, none⟩ = some (.int .i64 tt) := HS.out.cell 1
        have kQ0 : wr.cell? ⟨w.heap.size + 1, 0, none⟩ = some (.int .i64 0) := HQ.out.cell 0
        have kQ1 : wr.cell? ⟨w.heap.size + 1, 1, none⟩ = some (.int .i64 0) := HQ.out.cell 1
        have kQ2 : wr.cell? ⟨w.heap.size + 1, 2, none⟩ = some (.int .i64 0) := HQ.out.cell 2
        have kN0 : wr.cell? ⟨w.heap.size + 1 + 1, 0, none⟩ = some (.int .i64 pu) := HN.out.cell 0
        have kN1 : wr.cell? ⟨w.heap.size + 1 + 1, 1, none⟩ = some (.int .i64 pd) := HN.out.cell 1
        have kN2 : wr.cell? ⟨w.heap.size + 1 + 1, 2, none⟩ = some (.int .i64 po) := HN.out.cell 2
        go_wp2_with fail
        refine (K1.out _ (HR.out.kept EE.out)).mono ?_
        rintro e v21 ⟨rfl, hb⟩
        clear kS0 kS1 kQ0 kQ1 kQ2 kN0 kN1 kN2
        have HS := Lib.hid (Blk.next (w := wr) HS.out hb)
        have HQ := Lib.hid (Blk.next (w := wr) HQ.out hb)
        have HN := Lib.hid (Blk.next (w := wr) HN.out hb)
        have EE := Lib.hid (EE.out.trans (hb.mono EE.out.size))
        clear hb
        have kS0 : v21.cell? ⟨w.heap.size, 0, none⟩ = some (.int .i64 f) := HS.out.cell 0
        have kS1 : v21.cell? ⟨w.heap.size, 1, none⟩ = some (.int .i64 tt) := HS.out.cell 1
        have kQ0 : v21.cell? ⟨w.heap.size + 1, 0, none⟩ = some (.int .i64 0) := HQ.out.cell 0
        have kQ1 : v21.cell? ⟨w.heap.size + 1, 1, none⟩ = some (.int .i64 0) := HQ.out.cell 1
        have kQ2 : v21.cell? ⟨w.heap.size + 1, 2, none⟩ = some (.int .i64 0) := HQ.out.cell 2
        have kN0 : v21.cell? ⟨w.heap.size + 1 + 1, 0, none⟩ = some (.int .i64 pu) := HN.out.cell 0
        have kN1 : v21.cell? ⟨w.heap.size + 1 + 1, 1, none⟩ = some (.int .i64 pd) := HN.out.cell 1
        have kN2 : v21.cell? ⟨w.heap.size + 1 + 1, 2, none⟩ = some (.int .i64 po) := HN.out.cell 2
        have lS := HS.out.lt
        have lQ := HQ.out.lt
        have lN := HN.out.lt
        go_wp2_with fail
        clear kS0 kS1 kQ0 kQ1 kQ2 kN0 kN1 kN2 lS lQ lN
        have GS : Blk (v21.alloc (.cells #[.int .i64 p2, .bool d2] 55)) (w.heap.size) 24 #[.int .i64 f, .int .i64 tt] := HS.out.alloc (.cells #[.int .i64 p2, .bool d2] 55)
        have GQ : Blk (v21.alloc (.cells #[.int .i64 p2, .bool d2] 55)) (w.heap.size + 1) 25 #[.int .i64 0, .int .i64 0, .int .i64 0] := HQ.out.alloc (.cells #[.int .i64 p2, .bool d2] 55)
        have GN : Blk (v21.alloc (.cells #[.int .i64 p2, .bool d2] 55)) (w.heap.size + 1 + 1) 25 #[.int .i64 pu, .int .i64 pd, .int .i64 po] := HN.out.alloc (.cells #[.int .i64 p2, .bool d2] 55)
        have GX : Blk (v21.alloc (.cells #[.int .i64 p2, .bool d2] 55)) (v21.heap.size) 55 #[.int .i64 p2, .bool d2] := Blk.new v21 _ _
        have GE : Below w.heap.size w (v21.alloc (.cells #[.int .i64 p2, .bool d2] 55)) := EE.out.alloc EE.out.size (.cells #[.int .i64 p2, .bool d2] 55)
        obtain ⟨gx, hgx⟩ : ∃ g, v21.heap.size = g := ⟨_, rfl⟩
        have ne3_0 : gx ≠ w.heap.size := by have := HS.out.lt; omega
        have ne0_3 : w.heap.size ≠ gx := by have := HS.out.lt; omega
        have ne3_1 : gx ≠ w.heap.size + 1 := by have := HQ.out.lt; omega
        have ne1_3 : w.heap.size + 1 ≠ gx := by have := HQ.out.lt; omega
        have ne3_2 : gx ≠ w.heap.size + 1 + 1 := by have := HN.out.lt; omega
        have ne2_3 : w.heap.size + 1 + 1 ≠ gx := by have := HN.out.lt; omega
        have gegx : w.heap.size ≤ gx := by have := EE.out.size; omega
        rw [hgx] at GX ⊢
        clear hgx
        obtain ⟨v22, hv22⟩ : ∃ V, (v21.alloc (.cells #[.int .i64 p2, .bool d2] 55)) = V := ⟨_, rfl⟩
        rw [hv22] at GS GQ GN GX GE ⊢
        have HS := Lib.hid GS
        have HQ := Lib.hid GQ
        have HN := Lib.hid GN
        have HX := Lib.hid GX
        have EE := Lib.hid GE
        clear hv22 GS GQ GN GX GE
        have kS0 : v22.cell? ⟨w.heap.size, 0, none⟩ = some (.int .i64 f) := HS.out.cell 0
        have kS1 : v22.cell? ⟨w.heap.size, 1, none⟩ = some (.int .i64 tt) := HS.out.cell 1
        have kQ0 : v22.cell? ⟨w.heap.size + 1, 0, none⟩ = some (.int .i64 0) := HQ.out.cell 0
        have kQ1 : v22.cell? ⟨w.heap.size + 1, 1, none⟩ = some (.int .i64 0) := HQ.out.cell 1
        have kQ2 : v22.cell? ⟨w.heap.size + 1, 2, none⟩ = some (.int .i64 0) := HQ.out.cell 2
        have kN0 : v22.cell? ⟨w.heap.size + 1 + 1, 0, none⟩ = some (.int .i64 pu) := HN.out.cell 0
        have kN1 : v22.cell? ⟨w.heap.size + 1 + 1, 1, none⟩ = some (.int .i64 pd) := HN.out.cell 1
        have kN2 : v22.cell? ⟨w.heap.size + 1 + 1, 2, none⟩ = some (.int .i64 po) := HN.out.cell 2
        have kX0 : v22.cell? ⟨gx, 0, none⟩ = some (.int .i64 p2) := HX.out.cell 0
        have kX1 : v22.cell? ⟨gx, 1, none⟩ = some (.bool d2) := HX.out.cell 1
        refine (K2.out _ (HR.out.kept EE.out)).mono ?_
        rintro e v23 ⟨rfl, hb⟩
        clear kS0 kS1 kQ0 kQ1 kQ2 kN0 kN1 kN2 kX0 kX1
        have HS := Lib.hid (Blk.next (w := v22) HS.out hb)
        have HQ := Lib.hid (Blk.next (w := v22) HQ.out hb)
        have HN := Lib.hid (Blk.next (w := v22) HN.out hb)
        have HX := Lib.hid (Blk.next (w := v22) HX.out hb)
        have EE := Lib.hid (EE.out.trans (hb.mono EE.out.size))
        clear hb
        have kS0 : v23.cell? ⟨w.heap.size, 0, none⟩ = some (.int .i64 f) := HS.out.cell 0
        have kS1 : v23.cell? ⟨w.heap.size, 1, none⟩ = some (.int .i64 tt) := HS.out.cell 1
        have kQ0 : v23.cell? ⟨w.heap.size + 1, 0, none⟩ = some (.int .i64 0) := HQ.out.cell 0
        have kQ1 : v23.cell? ⟨w.heap.size + 1, 1, none⟩ = some (.int .i64 0) := HQ.out.cell 1
        have kQ2 : v23.cell? ⟨w.heap.size + 1, 2, none⟩ = some (.int .i64 0) := HQ.out.cell 2
        have kN0 : v23.cell? ⟨w.heap.size + 1 + 1, 0, none⟩ = some (.int .i64 pu) := HN.out.cell 0
        have kN1 : v23.cell? ⟨w.heap.size + 1 + 1, 1, none⟩ = some (.int .i64 pd) := HN.out.cell 1
        have kN2 : v23.cell? ⟨w.heap.size + 1 + 1, 2, none⟩ = some (.int .i64 po) := HN.out.cell 2
        have kX0 : v23.cell? ⟨gx, 0, none⟩ = some (.int .i64 p2) := HX.out.cell 0
        have kX1 : v23.cell? ⟨gx, 1, none⟩ = some (.bool d2) := HX.out.cell 1
        have lS := HS.out.lt
        have lQ := HQ.out.lt
        have lN := HN.out.lt
        have lX := HX.out.lt
        have GN := Lib.hid (HN.out.alloc (.cells #[.int .i64 p1, .bool d1] 55))
        have GS := Lib.hid (HS.out.alloc (.cells #[.int .i64 p1, .bool d1] 55))
        have GQ := Lib.hid (HQ.out.alloc (.cells #[.int .i64 p1, .bool d1] 55))
        have GE := Lib.hid (EE.out.alloc EE.out.size (.cells #[.int .i64 p1, .bool d1] 55))
        go_wp2_with fail
        go_roundw
        case rel => exact ⟨m + 1, by omega, congrArg (Value.int .i64) (by have := HT.out; omega), by rw [E1.out, E2.out, E3.out]; exact GN.out, GS.out, GQ.out, GE.out⟩
        case measure => have := HT.out; simp [intOf]; omega
      · have e2 : decide (0 < r2) = true := decide_eq_true (by omega)
        rw [e2] at K1
        clear e2
        cases d2
        · have G6' : dorL O (lastL T t n) = false := by rw [G2.out]; exact G6.out
          by_cases z1 : r1 = 0
          · have TF := tick_new (P := P) (D := D) G6' (by rw [G1.out]; exact z1)
            have E1 := Lib.hid (show sumF (upL T P D O n) f (m + 1) = pu by (rw [Spu.out, TF.1]) <;> (first | rfl | omega | (split <;> omega)))
            have E2 := Lib.hid (show sumF (dnL T P D O n) f (m + 1) = pd by (rw [Spd.out, TF.2.1]) <;> (first | rfl | omega | (split <;> omega)))
            have E3 := Lib.hid (show sumF (doL T O n) f (m + 1) = po by (rw [Spo.out, TF.2.2]) <;> (first | rfl | omega))
            clear TF
            clear G6'
            subst z1
            have kS0 : wr.cell? ⟨w.heap.size, 0, none⟩ = some (.int .i64 f) := HS.out.cell 0
            have kS1 : wr.cell? ⟨w.heap.size, 1, none⟩ = some (.int .i64 tt) := HS.out.cell 1
            have kQ0 : wr.cell? ⟨w.heap.size + 1, 0, none⟩ = some (.int .i64 0) := HQ.out.cell 0
            have kQ1 : wr.cell? ⟨w.heap.size + 1, 1, none⟩ = some (.int .i64 0) := HQ.out.cell 1
            have kQ2 : wr.cell? ⟨w.heap.size + 1, 2, none⟩ = some (.int .i64 0) := HQ.out.cell 2
            have kN0 : wr.cell? ⟨w.heap.size + 1 + 1, 0, none⟩ = some (.int .i64 pu) := HN.out.cell 0
            have kN1 : wr.cell? ⟨w.heap.size + 1 + 1, 1, none⟩ = some (.int .i64 pd) := HN.out.cell 1
            have kN2 : wr.cell? ⟨w.heap.size + 1 + 1, 2, none⟩ = some (.int .i64 po) := HN.out.cell 2
            go_wp2_with fail
            refine (K1.out _ (HR.out.kept EE.out)).mono ?_
            rintro e v21 ⟨rfl, hb⟩
            clear kS0 kS1 kQ0 kQ1 kQ2 kN0 kN1 kN2
            have HS := Lib.hid (Blk.next (w := wr) HS.out hb)
            have HQ := Lib.hid (Blk.next (w := wr) HQ.out hb)
            have HN := Lib.hid (Blk.next (w := wr) HN.out hb)
            have EE := Lib.hid (EE.out.trans (hb.mono EE.out.size))
            clear hb
            have kS0 : v21.cell? ⟨w.heap.size, 0, none⟩ = some (.int .i64 f) := HS.out.cell 0
            have kS1 : v21.cell? ⟨w.heap.size, 1, none⟩ = some (.int .i64 tt) := HS.out.cell 1
            have kQ0 : v21.cell? ⟨w.heap.size + 1, 0, none⟩ = some (.int .i64 0) := HQ.out.cell 0
            have kQ1 : v21.cell? ⟨w.heap.size + 1, 1, none⟩ = some (.int .i64 0) := HQ.out.cell 1
            have kQ2 : v21.cell? ⟨w.heap.size + 1, 2, none⟩ = some (.int .i64 0) := HQ.out.cell 2
            have kN0 : v21.cell? ⟨w.heap.size + 1 + 1, 0, none⟩ = some (.int .i64 pu) := HN.out.cell 0
            have kN1 : v21.cell? ⟨w.heap.size + 1 + 1, 1, none⟩ = some (.int .i64 pd) := HN.out.cell 1
            have kN2 : v21.cell? ⟨w.heap.size + 1 + 1, 2, none⟩ = some (.int .i64 po) := HN.out.cell 2
            have lS := HS.out.lt
            have lQ := HQ.out.lt
            have lN := HN.out.lt
            go_wp2_with fail
            clear kS0 kS1 kQ0 kQ1 kQ2 kN0 kN1 kN2 lS lQ lN
            have GS : Blk (v21.alloc (.cells #[.int .i64 p2, .bool false] 55)) (w.heap.size) 24 #[.int .i64 f, .int .i64 tt] := HS.out.alloc (.cells #[.int .i64 p2, .bool false] 55)
            have GQ : Blk (v21.alloc (.cells #[.int .i64 p2, .bool false] 55)) (w.heap.size + 1) 25 #[.int .i64 0, .int .i64 0, .int .i64 0] := HQ.out.alloc (.cells #[.int .i64 p2, .bool false] 55)
            have GN : Blk (v21.alloc (.cells #[.int .i64 p2, .bool false] 55)) (w.heap.size + 1 + 1) 25 #[.int .i64 pu, .int .i64 pd, .int .i64 po] := HN.out.alloc (.cells #[.int .i64 p2, .bool false] 55)
            have GX : Blk (v21.alloc (.cells #[.int .i64 p2, .bool false] 55)) (v21.heap.size) 55 #[.int .i64 p2, .bool false] := Blk.new v21 _ _
            have GE : Below w.heap.size w (v21.alloc (.cells #[.int .i64 p2, .bool false] 55)) := EE.out.alloc EE.out.size (.cells #[.int .i64 p2, .bool false] 55)
            obtain ⟨gx, hgx⟩ : ∃ g, v21.heap.size = g := ⟨_, rfl⟩
            have ne3_0 : gx ≠ w.heap.size := by have := HS.out.lt; omega
            have ne0_3 : w.heap.size ≠ gx := by have := HS.out.lt; omega
            have ne3_1 : gx ≠ w.heap.size + 1 := by have := HQ.out.lt; omega
            have ne1_3 : w.heap.size + 1 ≠ gx := by have := HQ.out.lt; omega
            have ne3_2 : gx ≠ w.heap.size + 1 + 1 := by have := HN.out.lt; omega
            have ne2_3 : w.heap.size + 1 + 1 ≠ gx := by have := HN.out.lt; omega
            have gegx : w.heap.size ≤ gx := by have := EE.out.size; omega
            rw [hgx] at GX ⊢
            clear hgx
            obtain ⟨v22, hv22⟩ : ∃ V, (v21.alloc (.cells #[.int .i64 p2, .bool false] 55)) = V := ⟨_, rfl⟩
            rw [hv22] at GS GQ GN GX GE ⊢
            have HS := Lib.hid GS
            have HQ := Lib.hid GQ
            have HN := Lib.hid GN
            have HX := Lib.hid GX
            have EE := Lib.hid GE
            clear hv22 GS GQ GN GX GE
            have kS0 : v22.cell? ⟨w.heap.size, 0, none⟩ = some (.int .i64 f) := HS.out.cell 0
            have kS1 : v22.cell? ⟨w.heap.size, 1, none⟩ = some (.int .i64 tt) := HS.out.cell 1
            have kQ0 : v22.cell? ⟨w.heap.size + 1, 0, none⟩ = some (.int .i64 0) := HQ.out.cell 0
            have kQ1 : v22.cell? ⟨w.heap.size + 1, 1, none⟩ = some (.int .i64 0) := HQ.out.cell 1
            have kQ2 : v22.cell? ⟨w.heap.size + 1, 2, none⟩ = some (.int .i64 0) := HQ.out.cell 2
            have kN0 : v22.cell? ⟨w.heap.size + 1 + 1, 0, none⟩ = some (.int .i64 pu) := HN.out.cell 0
            have kN1 : v22.cell? ⟨w.heap.size + 1 + 1, 1, none⟩ = some (.int .i64 pd) := HN.out.cell 1
            have kN2 : v22.cell? ⟨w.heap.size + 1 + 1, 2, none⟩ = some (.int .i64 po) := HN.out.cell 2
            have kX0 : v22.cell? ⟨gx, 0, none⟩ = some (.int .i64 p2) := HX.out.cell 0
            have kX1 : v22.cell? ⟨gx, 1, none⟩ = some (.bool false) := HX.out.cell 1
            refine (K2.out _ (HR.out.kept EE.out)).mono ?_
            rintro e v23 ⟨rfl, hb⟩
            clear kS0 kS1 kQ0 kQ1 kQ2 kN0 kN1 kN2 kX0 kX1
            have HS := Lib.hid (Blk.next (w := v22) HS.out hb)
            have HQ := Lib.hid (Blk.next (w := v22) HQ.out hb)
            have HN := Lib.hid (Blk.next (w := v22) HN.out hb)
            have HX := Lib.hid (Blk.next (w := v22) HX.out hb)
            have EE := Lib.hid (EE.out.trans (hb.mono EE.out.size))
            clear hb
            have kS0 : v23.cell? ⟨w.heap.size, 0, none⟩ = some (.int .i64 f) := HS.out.cell 0
            have kS1 : v23.cell? ⟨w.heap.size, 1, none⟩ = some (.int .i64 tt) := HS.out.cell 1
            have kQ0 : v23.cell? ⟨w.heap.size + 1, 0, none⟩ = some (.int .i64 0) := HQ.out.cell 0
            have kQ1 : v23.cell? ⟨w.heap.size + 1, 1, none⟩ = some (.int .i64 0) := HQ.out.cell 1
            have kQ2 : v23.cell? ⟨w.heap.size + 1, 2, none⟩ = some (.int .i64 0) := HQ.out.cell 2
            have kN0 : v23.cell? ⟨w.heap.size + 1 + 1, 0, none⟩ = some (.int .i64 pu) := HN.out.cell 0
            have kN1 : v23.cell? ⟨w.heap.size + 1 + 1, 1, none⟩ = some (.int .i64 pd) := HN.out.cell 1
            have kN2 : v23.cell? ⟨w.heap.size + 1 + 1, 2, none⟩ = some (.int .i64 po) := HN.out.cell 2
            have kX0 : v23.cell? ⟨gx, 0, none⟩ = some (.int .i64 p2) := HX.out.cell 0
            have kX1 : v23.cell? ⟨gx, 1, none⟩ = some (.bool false) := HX.out.cell 1
            have lS := HS.out.lt
            have lQ := HQ.out.lt
            have lN := HN.out.lt
            have lX := HX.out.lt
            have GN := Lib.hid (HN.out.alloc (.cells #[.int .i64 p1, .bool d1] 55))
            have GS := Lib.hid (HS.out.alloc (.cells #[.int .i64 p1, .bool d1] 55))
            have GQ := Lib.hid (HQ.out.alloc (.cells #[.int .i64 p1, .bool d1] 55))
            have GE := Lib.hid (EE.out.alloc EE.out.size (.cells #[.int .i64 p1, .bool d1] 55))
            go_wp2_with fail
            go_roundw
            case rel => exact ⟨m + 1, by omega, congrArg (Value.int .i64) (by have := HT.out; omega), by rw [E1.out, E2.out, E3.out]; exact GN.out, GS.out, GQ.out, GE.out⟩
            case measure => have := HT.out; simp [intOf]; omega
          · have e1 : decide (0 < r1) = true := decide_eq_true (by omega)
            rw [e1] at K2
            clear e1
            have TG := tick_goes (P := P) (D := D) (p := p2) (q := p1) G6' (fun h => z2 (G2.out.symm.trans h)) (fun h => z1 (G1.out.symm.trans h)) (by rw [G2.out]; exact G4.out) (by rw [G1.out]; exact G3.out)
            clear G6'
            rcases Int.lt_trichotomy p1 p2 with hlt | heq | hgt
            · have TF := TG
              have E1 := Lib.hid (show sumF (upL T P D O n) f (m + 1) = pu + 1 by (rw [Spu.out, TF.1]) <;> (first | rfl | omega | (split <;> omega)))
              have E2 := Lib.hid (show sumF (dnL T P D O n) f (m + 1) = pd by (rw [Spd.out, TF.2.1]) <;> (first | rfl | omega | (split <;> omega)))
              have E3 := Lib.hid (show sumF (doL T O n) f (m + 1) = po by (rw [Spo.out, TF.2.2]) <;> (first | rfl | omega))
              clear TF
              clear TG
              have wo : IntKind.i64.wrap (pu + 1) = pu + 1 := IntWalk.i64_in _ (by omega)
              have kS0 : wr.cell? ⟨w.heap.size, 0, none⟩ = some (.int .i64 f) := HS.out.cell 0
              have kS1 : wr.cell? ⟨w.heap.size, 1, none⟩ = some (.int .i64 tt) := HS.out.cell 1
              have kQ0 : wr.cell? ⟨w.heap.size + 1, 0, none⟩ = some (.int .i64 0) := HQ.out.cell 0
              have kQ1 : wr.cell? ⟨w.heap.size + 1, 1, none⟩ = some (.int .i64 0) := HQ.out.cell 1
              have kQ2 : wr.cell? ⟨w.heap.size + 1, 2, none⟩ = some (.int .i64 0) := HQ.out.cell 2
              have kN0 : wr.cell? ⟨w.heap.size + 1 + 1, 0, none⟩ = some (.int .i64 pu) := HN.out.cell 0
              have jN0 : wr.frozen? ⟨w.heap.size + 1 + 1, 0, none⟩ = false := HN.out.frozen 0
              have kN1 : wr.cell? ⟨w.heap.size + 1 + 1, 1, none⟩ = some (.int .i64 pd) := HN.out.cell 1
              have jN1 : wr.frozen? ⟨w.heap.size + 1 + 1, 1, none⟩ = false := HN.out.frozen 1
              have kN2 : wr.cell? ⟨w.heap.size + 1 + 1, 2, none⟩ = some (.int .i64 po) := HN.out.cell 2
              have jN2 : wr.frozen? ⟨w.heap.size + 1 + 1, 2, none⟩ = false := HN.out.frozen 2
              go_wp2_with fail
              refine (K1.out _ (HR.out.kept EE.out)).mono ?_
              rintro e v21 ⟨rfl, hb⟩
              clear kS0 kS1 kQ0 kQ1 kQ2 kN0 jN0 kN1 jN1 kN2 jN2
              have HS := Lib.hid (Blk.next (w := wr) HS.out hb)
              have HQ := Lib.hid (Blk.next (w := wr) HQ.out hb)
              have HN := Lib.hid (Blk.next (w := wr) HN.out hb)
              have EE := Lib.hid (EE.out.trans (hb.mono EE.out.size))
              clear hb
              have kS0 : v21.cell? ⟨w.heap.size, 0, none⟩ = some (.int .i64 f) := HS.out.cell 0
              have kS1 : v21.cell? ⟨w.heap.size, 1, none⟩ = some (.int .i64 tt) := HS.out.cell 1
              have kQ0 : v21.cell? ⟨w.heap.size + 1, 0, none⟩ = some (.int .i64 0) := HQ.out.cell 0
              have kQ1 : v21.cell? ⟨w.heap.size + 1, 1, none⟩ = some (.int .i64 0) := HQ.out.cell 1
              have kQ2 : v21.cell? ⟨w.heap.size + 1, 2, none⟩ = some (.int .i64 0) := HQ.out.cell 2
              have kN0 : v21.cell? ⟨w.heap.size + 1 + 1, 0, none⟩ = some (.int .i64 pu) := HN.out.cell 0
              have jN0 : v21.frozen? ⟨w.heap.size + 1 + 1, 0, none⟩ = false := HN.out.frozen 0
              have kN1 : v21.cell? ⟨w.heap.size + 1 + 1, 1, none⟩ = some (.int .i64 pd) := HN.out.cell 1
              have jN1 : v21.frozen? ⟨w.heap.size + 1 + 1, 1, none⟩ = false := HN.out.frozen 1
              have kN2 : v21.cell? ⟨w.heap.size + 1 + 1, 2, none⟩ = some (.int .i64 po) := HN.out.cell 2
              have jN2 : v21.frozen? ⟨w.heap.size + 1 + 1, 2, none⟩ = false := HN.out.frozen 2
              have lS := HS.out.lt
              have lQ := HQ.out.lt
              have lN := HN.out.lt
              go_wp2_with fail
              clear kS0 kS1 kQ0 kQ1 kQ2 kN0 jN0 kN1 jN1 kN2 jN2 lS lQ lN
              have GS : Blk (v21.alloc (.cells #[.int .i64 p2, .bool false] 55)) (w.heap.size) 24 #[.int .i64 f, .int .i64 tt] := HS.out.alloc (.cells #[.int .i64 p2, .bool false] 55)
              have GQ : Blk (v21.alloc (.cells #[.int .i64 p2, .bool false] 55)) (w.heap.size + 1) 25 #[.int .i64 0, .int .i64 0, .int .i64 0] := HQ.out.alloc (.cells #[.int .i64 p2, .bool false] 55)
              have GN : Blk (v21.alloc (.cells #[.int .i64 p2, .bool false] 55)) (w.heap.size + 1 + 1) 25 #[.int .i64 pu, .int .i64 pd, .int .i64 po] := HN.out.alloc (.cells #[.int .i64 p2, .bool false] 55)
              have GX : Blk (v21.alloc (.cells #[.int .i64 p2, .bool false] 55)) (v21.heap.size) 55 #[.int .i64 p2, .bool false] := Blk.new v21 _ _
              have GE : Below w.heap.size w (v21.alloc (.cells #[.int .i64 p2, .bool false] 55)) := EE.out.alloc EE.out.size (.cells #[.int .i64 p2, .bool false] 55)
              obtain ⟨gx, hgx⟩ : ∃ g, v21.heap.size = g := ⟨_, rfl⟩
              have ne3_0 : gx ≠ w.heap.size := by have := HS.out.lt; omega
              have ne0_3 : w.heap.size ≠ gx := by have := HS.out.lt; omega
              have ne3_1 : gx ≠ w.heap.size + 1 := by have := HQ.out.lt; omega
              have ne1_3 : w.heap.size + 1 ≠ gx := by have := HQ.out.lt; omega
              have ne3_2 : gx ≠ w.heap.size + 1 + 1 := by have := HN.out.lt; omega
              have ne2_3 : w.heap.size + 1 + 1 ≠ gx := by have := HN.out.lt; omega
              have gegx : w.heap.size ≤ gx := by have := EE.out.size; omega
              rw [hgx] at GX ⊢
              clear hgx
              obtain ⟨v22, hv22⟩ : ∃ V, (v21.alloc (.cells #[.int .i64 p2, .bool false] 55)) = V := ⟨_, rfl⟩
              rw [hv22] at GS GQ GN GX GE ⊢
              have HS := Lib.hid GS
              have HQ := Lib.hid GQ
              have HN := Lib.hid GN
              have HX := Lib.hid GX
              have EE := Lib.hid GE
              clear hv22 GS GQ GN GX GE
              have kS0 : v22.cell? ⟨w.heap.size, 0, none⟩ = some (.int .i64 f) := HS.out.cell 0
              have kS1 : v22.cell? ⟨w.heap.size, 1, none⟩ = some (.int .i64 tt) := HS.out.cell 1
              have kQ0 : v22.cell? ⟨w.heap.size + 1, 0, none⟩ = some (.int .i64 0) := HQ.out.cell 0
              have kQ1 : v22.cell? ⟨w.heap.size + 1, 1, none⟩ = some (.int .i64 0) := HQ.out.cell 1
              have kQ2 : v22.cell? ⟨w.heap.size + 1, 2, none⟩ = some (.int .i64 0) := HQ.out.cell 2
              have kN0 : v22.cell? ⟨w.heap.size + 1 + 1, 0, none⟩ = some (.int .i64 pu) := HN.out.cell 0
              have jN0 : v22.frozen? ⟨w.heap.size + 1 + 1, 0, none⟩ = false := HN.out.frozen 0
              have kN1 : v22.cell? ⟨w.heap.size + 1 + 1, 1, none⟩ = some (.int .i64 pd) := HN.out.cell 1
              have jN1 : v22.frozen? ⟨w.heap.size + 1 + 1, 1, none⟩ = false := HN.out.frozen 1
              have kN2 : v22.cell? ⟨w.heap.size + 1 + 1, 2, none⟩ = some (.int .i64 po) := HN.out.cell 2
              have jN2 : v22.frozen? ⟨w.heap.size + 1 + 1, 2, none⟩ = false := HN.out.frozen 2
              have kX0 : v22.cell? ⟨gx, 0, none⟩ = some (.int .i64 p2) := HX.out.cell 0
              have kX1 : v22.cell? ⟨gx, 1, none⟩ = some (.bool false) := HX.out.cell 1
              refine (K2.out _ (HR.out.kept EE.out)).mono ?_
              rintro e v23 ⟨rfl, hb⟩
              clear kS0 kS1 kQ0 kQ1 kQ2 kN0 jN0 kN1 jN1 kN2 jN2 kX0 kX1
              have HS := Lib.hid (Blk.next (w := v22) HS.out hb)
              have HQ := Lib.hid (Blk.next (w := v22) HQ.out hb)
              have HN := Lib.hid (Blk.next (w := v22) HN.out hb)
              have HX := Lib.hid (Blk.next (w := v22) HX.out hb)
              have EE := Lib.hid (EE.out.trans (hb.mono EE.out.size))
              clear hb
              have kS0 : v23.cell? ⟨w.heap.size, 0, none⟩ = some (.int .i64 f) := HS.out.cell 0
              have kS1 : v23.cell? ⟨w.heap.size, 1, none⟩ = some (.int .i64 tt) := HS.out.cell 1
              have kQ0 : v23.cell? ⟨w.heap.size + 1, 0, none⟩ = some (.int .i64 0) := HQ.out.cell 0
              have kQ1 : v23.cell? ⟨w.heap.size + 1, 1, none⟩ = some (.int .i64 0) := HQ.out.cell 1
              have kQ2 : v23.cell? ⟨w.heap.size + 1, 2, none⟩ = some (.int .i64 0) := HQ.out.cell 2
              have kN0 : v23.cell? ⟨w.heap.size + 1 + 1, 0, none⟩ = some (.int .i64 pu) := HN.out.cell 0
              have jN0 : v23.frozen? ⟨w.heap.size + 1 + 1, 0, none⟩ = false := HN.out.frozen 0
              have kN1 : v23.cell? ⟨w.heap.size + 1 + 1, 1, none⟩ = some (.int .i64 pd) := HN.out.cell 1
              have jN1 : v23.frozen? ⟨w.heap.size + 1 + 1, 1, none⟩ = false := HN.out.frozen 1
              have kN2 : v23.cell? ⟨w.heap.size + 1 + 1, 2, none⟩ = some (.int .i64 po) := HN.out.cell 2
              have jN2 : v23.frozen? ⟨w.heap.size + 1 + 1, 2, none⟩ = false := HN.out.frozen 2
              have kX0 : v23.cell? ⟨gx, 0, none⟩ = some (.int .i64 p2) := HX.out.cell 0
              have kX1 : v23.cell? ⟨gx, 1, none⟩ = some (.bool false) := HX.out.cell 1
              have lS := HS.out.lt
              have lQ := HQ.out.lt
              have lN := HN.out.lt
              have lX := HX.out.lt
              have GN := Lib.hid ((HN.out.set 0 (.int .i64 (pu + 1))).alloc (.cells #[.int .i64 p1, .bool d1] 55))
              have GS := Lib.hid ((HS.out.far (p := ⟨w.heap.size + 1 + 1, 0, none⟩) (by show w.heap.size ≠ w.heap.size + 1 + 1; omega) (.int .i64 (pu + 1))).alloc (.cells #[.int .i64 p1, .bool d1] 55))
              have GQ := Lib.hid ((HQ.out.far (p := ⟨w.heap.size + 1 + 1, 0, none⟩) (by show w.heap.size + 1 ≠ w.heap.size + 1 + 1; omega) (.int .i64 (pu + 1))).alloc (.cells #[.int .i64 p1, .bool d1] 55))
              have GE := Lib.hid ((EE.out.setCell (p := ⟨w.heap.size + 1 + 1, 0, none⟩) (by show w.heap.size ≤ w.heap.size + 1 + 1; omega) (.int .i64 (pu + 1))).alloc (EE.out.setCell (p := ⟨w.heap.size + 1 + 1, 0, none⟩) (by show w.heap.size ≤ w.heap.size + 1 + 1; omega) (.int .i64 (pu + 1))).size (.cells #[.int .i64 p1, .bool d1] 55))
              go_wp2_with fail
              go_roundw
              case rel => exact ⟨m + 1, by omega, congrArg (Value.int .i64) (by have := HT.out; omega), by rw [E1.out, E2.out, E3.out]; exact GN.out, GS.out, GQ.out, GE.out⟩
              case measure => have := HT.out; simp [intOf]; omega
            · have TF := TG
              have E1 := Lib.hid (show sumF (upL T P D O n) f (m + 1) = pu by (rw [Spu.out, TF.1]) <;> (first | rfl | omega | (split <;> omega)))
              have E2 := Lib.hid (show sumF (dnL T P D O n) f (m + 1) = pd by (rw [Spd.out, TF.2.1]) <;> (first | rfl | omega | (split <;> omega)))
              have E3 := Lib.hid (show sumF (doL T O n) f (m + 1) = po by (rw [Spo.out, TF.2.2]) <;> (first | rfl | omega))
              clear TF
              clear TG
              subst heq
              have kS0 : wr.cell? ⟨w.heap.size, 0, none⟩ = some (.int .i64 f) := HS.out.cell 0
              have kS1 : wr.cell? ⟨w.heap.size, 1, none⟩ = some (.int .i64 tt) := HS.out.cell 1
              have kQ0 : wr.cell? ⟨w.heap.size + 1, 0, none⟩ = some (.int .i64 0) := HQ.out.cell 0
              have kQ1 : wr.cell? ⟨w.heap.size + 1, 1, none⟩ = some (.int .i64 0) := HQ.out.cell 1
              have kQ2 : wr.cell? ⟨w.heap.size + 1, 2, none⟩ = some (.int .i64 0) := HQ.out.cell 2
              have kN0 : wr.cell? ⟨w.heap.size + 1 + 1, 0, none⟩ = some (.int .i64 pu) := HN.out.cell 0
              have kN1 : wr.cell? ⟨w.heap.size + 1 + 1, 1, none⟩ = some (.int .i64 pd) := HN.out.cell 1
              have kN2 : wr.cell? ⟨w.heap.size + 1 + 1, 2, none⟩ = some (.int .i64 po) := HN.out.cell 2
              go_wp2_with fail
              refine (K1.out _ (HR.out.kept EE.out)).mono ?_
              rintro e v21 ⟨rfl, hb⟩
              clear kS0 kS1 kQ0 kQ1 kQ2 kN0 kN1 kN2
              have HS := Lib.hid (Blk.next (w := wr) HS.out hb)
              have HQ := Lib.hid (Blk.next (w := wr) HQ.out hb)
              have HN := Lib.hid (Blk.next (w := wr) HN.out hb)
              have EE := Lib.hid (EE.out.trans (hb.mono EE.out.size))
              clear hb
              have kS0 : v21.cell? ⟨w.heap.size, 0, none⟩ = some (.int .i64 f) := HS.out.cell 0
              have kS1 : v21.cell? ⟨w.heap.size, 1, none⟩ = some (.int .i64 tt) := HS.out.cell 1
              have kQ0 : v21.cell? ⟨w.heap.size + 1, 0, none⟩ = some (.int .i64 0) := HQ.out.cell 0
              have kQ1 : v21.cell? ⟨w.heap.size + 1, 1, none⟩ = some (.int .i64 0) := HQ.out.cell 1
              have kQ2 : v21.cell? ⟨w.heap.size + 1, 2, none⟩ = some (.int .i64 0) := HQ.out.cell 2
              have kN0 : v21.cell? ⟨w.heap.size + 1 + 1, 0, none⟩ = some (.int .i64 pu) := HN.out.cell 0
              have kN1 : v21.cell? ⟨w.heap.size + 1 + 1, 1, none⟩ = some (.int .i64 pd) := HN.out.cell 1
              have kN2 : v21.cell? ⟨w.heap.size + 1 + 1, 2, none⟩ = some (.int .i64 po) := HN.out.cell 2
              have lS := HS.out.lt
              have lQ := HQ.out.lt
              have lN := HN.out.lt
              go_wp2_with fail
              clear kS0 kS1 kQ0 kQ1 kQ2 kN0 kN1 kN2 lS lQ lN
              have GS : Blk (v21.alloc (.cells #[.int .i64 p1, .bool false] 55)) (w.heap.size) 24 #[.int .i64 f, .int .i64 tt] := HS.out.alloc (.cells #[.int .i64 p1, .bool false] 55)
              have GQ : Blk (v21.alloc (.cells #[.int .i64 p1, .bool false] 55)) (w.heap.size + 1) 25 #[.int .i64 0, .int .i64 0, .int .i64 0] := HQ.out.alloc (.cells #[.int .i64 p1, .bool false] 55)
              have GN : Blk (v21.alloc (.cells #[.int .i64 p1, .bool false] 55)) (w.heap.size + 1 + 1) 25 #[.int .i64 pu, .int .i64 pd, .int .i64 po] := HN.out.alloc (.cells #[.int .i64 p1, .bool false] 55)
              have GX : Blk (v21.alloc (.cells #[.int .i64 p1, .bool false] 55)) (v21.heap.size) 55 #[.int .i64 p1, .bool false] := Blk.new v21 _ _
              have GE : Below w.heap.size w (v21.alloc (.cells #[.int .i64 p1, .bool false] 55)) := EE.out.alloc EE.out.size (.cells #[.int .i64 p1, .bool false] 55)
              obtain ⟨gx, hgx⟩ : ∃ g, v21.heap.size = g := ⟨_, rfl⟩
              have ne3_0 : gx ≠ w.heap.size := by have := HS.out.lt; omega
              have ne0_3 : w.heap.size ≠ gx := by have := HS.out.lt; omega
              have ne3_1 : gx ≠ w.heap.size + 1 := by have := HQ.out.lt; omega
              have ne1_3 : w.heap.size + 1 ≠ gx := by have := HQ.out.lt; omega
              have ne3_2 : gx ≠ w.heap.size + 1 + 1 := by have := HN.out.lt; omega
              have ne2_3 : w.heap.size + 1 + 1 ≠ gx := by have := HN.out.lt; omega
              have gegx : w.heap.size ≤ gx := by have := EE.out.size; omega
              rw [hgx] at GX ⊢
              clear hgx
              obtain ⟨v22, hv22⟩ : ∃ V, (v21.alloc (.cells #[.int .i64 p1, .bool false] 55)) = V := ⟨_, rfl⟩
              rw [hv22] at GS GQ GN GX GE ⊢
              have HS := Lib.hid GS
              have HQ := Lib.hid GQ
              have HN := Lib.hid GN
              have HX := Lib.hid GX
              have EE := Lib.hid GE
              clear hv22 GS GQ GN GX GE
              have kS0 : v22.cell? ⟨w.heap.size, 0, none⟩ = some (.int .i64 f) := HS.out.cell 0
              have kS1 : v22.cell? ⟨w.heap.size, 1, none⟩ = some (.int .i64 tt) := HS.out.cell 1
              have kQ0 : v22.cell? ⟨w.heap.size + 1, 0, none⟩ = some (.int .i64 0) := HQ.out.cell 0
              have kQ1 : v22.cell? ⟨w.heap.size + 1, 1, none⟩ = some (.int .i64 0) := HQ.out.cell 1
              have kQ2 : v22.cell? ⟨w.heap.size + 1, 2, none⟩ = some (.int .i64 0) := HQ.out.cell 2
              have kN0 : v22.cell? ⟨w.heap.size + 1 + 1, 0, none⟩ = some (.int .i64 pu) := HN.out.cell 0
              have kN1 : v22.cell? ⟨w.heap.size + 1 + 1, 1, none⟩ = some (.int .i64 pd) := HN.out.cell 1
              have kN2 : v22.cell? ⟨w.heap.size + 1 + 1, 2, none⟩ = some (.int .i64 po) := HN.out.cell 2
              have kX0 : v22.cell? ⟨gx, 0, none⟩ = some (.int .i64 p1) := HX.out.cell 0
              have kX1 : v22.cell? ⟨gx, 1, none⟩ = some (.bool false) := HX.out.cell 1
              refine (K2.out _ (HR.out.kept EE.out)).mono ?_
              rintro e v23 ⟨rfl, hb⟩
              clear kS0 kS1 kQ0 kQ1 kQ2 kN0 kN1 kN2 kX0 kX1
              have HS := Lib.hid (Blk.next (w := v22) HS.out hb)
              have HQ := Lib.hid (Blk.next (w := v22) HQ.out hb)
              have HN := Lib.hid (Blk.next (w := v22) HN.out hb)
              have HX := Lib.hid (Blk.next (w := v22) HX.out hb)
              have EE := Lib.hid (EE.out.trans (hb.mono EE.out.size))
              clear hb
              have kS0 : v23.cell? ⟨w.heap.size, 0, none⟩ = some (.int .i64 f) := HS.out.cell 0
              have kS1 : v23.cell? ⟨w.heap.size, 1, none⟩ = some (.int .i64 tt) := HS.out.cell 1
              have kQ0 : v23.cell? ⟨w.heap.size + 1, 0, none⟩ = some (.int .i64 0) := HQ.out.cell 0
              have kQ1 : v23.cell? ⟨w.heap.size + 1, 1, none⟩ = some (.int .i64 0) := HQ.out.cell 1
              have kQ2 : v23.cell? ⟨w.heap.size + 1, 2, none⟩ = some (.int .i64 0) := HQ.out.cell 2
              have kN0 : v23.cell? ⟨w.heap.size + 1 + 1, 0, none⟩ = some (.int .i64 pu) := HN.out.cell 0
              have kN1 : v23.cell? ⟨w.heap.size + 1 + 1, 1, none⟩ = some (.int .i64 pd) := HN.out.cell 1
              have kN2 : v23.cell? ⟨w.heap.size + 1 + 1, 2, none⟩ = some (.int .i64 po) := HN.out.cell 2
              have kX0 : v23.cell? ⟨gx, 0, none⟩ = some (.int .i64 p1) := HX.out.cell 0
              have kX1 : v23.cell? ⟨gx, 1, none⟩ = some (.bool false) := HX.out.cell 1
              have lS := HS.out.lt
              have lQ := HQ.out.lt
              have lN := HN.out.lt
              have lX := HX.out.lt
              have GN := Lib.hid (HN.out.alloc (.cells #[.int .i64 p1, .bool d1] 55))
              have GS := Lib.hid (HS.out.alloc (.cells #[.int .i64 p1, .bool d1] 55))
              have GQ := Lib.hid (HQ.out.alloc (.cells #[.int .i64 p1, .bool d1] 55))
              have GE := Lib.hid (EE.out.alloc EE.out.size (.cells #[.int .i64 p1, .bool d1] 55))
              go_wp2_with fail
              go_roundw
              case rel => exact ⟨m + 1, by omega, congrArg (Value.int .i64) (by have := HT.out; omega), by rw [E1.out, E2.out, E3.out]; exact GN.out, GS.out, GQ.out, GE.out⟩
              case measure => have := HT.out; simp [intOf]; omega
            · have TF := TG
              have E1 := Lib.hid (show sumF (upL T P D O n) f (m + 1) = pu by (rw [Spu.out, TF.1]) <;> (first | rfl | omega | (split <;> omega)))
              have E2 := Lib.hid (show sumF (dnL T P D O n) f (m + 1) = pd + 1 by (rw [Spd.out, TF.2.1]) <;> (first | rfl | omega | (split <;> omega)))
              have E3 := Lib.hid (show sumF (doL T O n) f (m + 1) = po by (rw [Spo.out, TF.2.2]) <;> (first | rfl | omega))
              clear TF
              clear TG
              have wo : IntKind.i64.wrap (pd + 1) = pd + 1 := IntWalk.i64_in _ (by omega)
              have nu : ¬ p1 < p2 := by omega
              have kS0 : wr.cell? ⟨w.heap.size, 0, none⟩ = some (.int .i64 f) := HS.out.cell 0
              have kS1 : wr.cell? ⟨w.heap.size, 1, none⟩ = some (.int .i64 tt) := HS.out.cell 1
              have kQ0 : wr.cell? ⟨w.heap.size + 1, 0, none⟩ = some (.int .i64 0) := HQ.out.cell 0
              have kQ1 : wr.cell? ⟨w.heap.size + 1, 1, none⟩ = some (.int .i64 0) := HQ.out.cell 1
              have kQ2 : wr.cell? ⟨w.heap.size + 1, 2, none⟩ = some (.int .i64 0) := HQ.out.cell 2
              have kN0 : wr.cell? ⟨w.heap.size + 1 + 1, 0, none⟩ = some (.int .i64 pu) := HN.out.cell 0
              have jN0 : wr.frozen? ⟨w.heap.size + 1 + 1, 0, none⟩ = false := HN.out.frozen 0
              have kN1 : wr.cell? ⟨w.heap.size + 1 + 1, 1, none⟩ = some (.int .i64 pd) := HN.out.cell 1
              have jN1 : wr.frozen? ⟨w.heap.size + 1 + 1, 1, none⟩ = false := HN.out.frozen 1
              have kN2 : wr.cell? ⟨w.heap.size + 1 + 1, 2, none⟩ = some (.int .i64 po) := HN.out.cell 2
              have jN2 : wr.frozen? ⟨w.heap.size + 1 + 1, 2, none⟩ = false := HN.out.frozen 2
              go_wp2_with fail
              refine (K1.out _ (HR.out.kept EE.out)).mono ?_
              rintro e v21 ⟨rfl, hb⟩
              clear kS0 kS1 kQ0 kQ1 kQ2 kN0 jN0 kN1 jN1 kN2 jN2
              have HS := Lib.hid (Blk.next (w := wr) HS.out hb)
              have HQ := Lib.hid (Blk.next (w := wr) HQ.out hb)
              have HN := Lib.hid (Blk.next (w := wr) HN.out hb)
              have EE := Lib.hid (EE.out.trans (hb.mono EE.out.size))
              clear hb
              have kS0 : v21.cell? ⟨w.heap.size, 0, none⟩ = some (.int .i64 f) := HS.out.cell 0
              have kS1 : v21.cell? ⟨w.heap.size, 1, none⟩ = some (.int .i64 tt) := HS.out.cell 1
              have kQ0 : v21.cell? ⟨w.heap.size + 1, 0, none⟩ = some (.int .i64 0) := HQ.out.cell 0
              have kQ1 : v21.cell? ⟨w.heap.size + 1, 1, none⟩ = some (.int .i64 0) := HQ.out.cell 1
              have kQ2 : v21.cell? ⟨w.heap.size + 1, 2, none⟩ = some (.int .i64 0) := HQ.out.cell 2
              have kN0 : v21.cell? ⟨w.heap.size + 1 + 1, 0, none⟩ = some (.int .i64 pu) := HN.out.cell 0
              have jN0 : v21.frozen? ⟨w.heap.size + 1 + 1, 0, none⟩ = false := HN.out.frozen 0
              have kN1 : v21.cell? ⟨w.heap.size + 1 + 1, 1, none⟩ = some (.int .i64 pd) := HN.out.cell 1
              have jN1 : v21.frozen? ⟨w.heap.size + 1 + 1, 1, none⟩ = false := HN.out.frozen 1
              have kN2 : v21.cell? ⟨w.heap.size + 1 + 1, 2, none⟩ = some (.int .i64 po) := HN.out.cell 2
              have jN2 : v21.frozen? ⟨w.heap.size + 1 + 1, 2, none⟩ = false := HN.out.frozen 2
              have lS := HS.out.lt
              have lQ := HQ.out.lt
              have lN := HN.out.lt
              go_wp2_with fail
              clear kS0 kS1 kQ0 kQ1 kQ2 kN0 jN0 kN1 jN1 kN2 jN2 lS lQ lN
              have GS : Blk (v21.alloc (.cells #[.int .i64 p2, .bool false] 55)) (w.heap.size) 24 #[.int .i64 f, .int .i64 tt] := HS.out.alloc (.cells #[.int .i64 p2, .bool false] 55)
              have GQ : Blk (v21.alloc (.cells #[.int .i64 p2, .bool false] 55)) (w.heap.size + 1) 25 #[.int .i64 0, .int .i64 0, .int .i64 0] := HQ.out.alloc (.cells #[.int .i64 p2, .bool false] 55)
              have GN : Blk (v21.alloc (.cells #[.int .i64 p2, .bool false] 55)) (w.heap.size + 1 + 1) 25 #[.int .i64 pu, .int .i64 pd, .int .i64 po] := HN.out.alloc (.cells #[.int .i64 p2, .bool false] 55)
              have GX : Blk (v21.alloc (.cells #[.int .i64 p2, .bool false] 55)) (v21.heap.size) 55 #[.int .i64 p2, .bool false] := Blk.new v21 _ _
              have GE : Below w.heap.size w (v21.alloc (.cells #[.int .i64 p2, .bool false] 55)) := EE.out.alloc EE.out.size (.cells #[.int .i64 p2, .bool false] 55)
              obtain ⟨gx, hgx⟩ : ∃ g, v21.heap.size = g := ⟨_, rfl⟩
              have ne3_0 : gx ≠ w.heap.size := by have := HS.out.lt; omega
              have ne0_3 : w.heap.size ≠ gx := by have := HS.out.lt; omega
              have ne3_1 : gx ≠ w.heap.size + 1 := by have := HQ.out.lt; omega
              have ne1_3 : w.heap.size + 1 ≠ gx := by have := HQ.out.lt; omega
              have ne3_2 : gx ≠ w.heap.size + 1 + 1 := by have := HN.out.lt; omega
              have ne2_3 : w.heap.size + 1 + 1 ≠ gx := by have := HN.out.lt; omega
              have gegx : w.heap.size ≤ gx := by have := EE.out.size; omega
              rw [hgx] at GX ⊢
              clear hgx
              obtain ⟨v22, hv22⟩ : ∃ V, (v21.alloc (.cells #[.int .i64 p2, .bool false] 55)) = V := ⟨_, rfl⟩
              rw [hv22] at GS GQ GN GX GE ⊢
              have HS := Lib.hid GS
              have HQ := Lib.hid GQ
              have HN := Lib.hid GN
              have HX := Lib.hid GX
              have EE := Lib.hid GE
              clear hv22 GS GQ GN GX GE
              have kS0 : v22.cell? ⟨w.heap.size, 0, none⟩ = some (.int .i64 f) := HS.out.cell 0
              have kS1 : v22.cell? ⟨w.heap.size, 1, none⟩ = some (.int .i64 tt) := HS.out.cell 1
              have kQ0 : v22.cell? ⟨w.heap.size + 1, 0, none⟩ = some (.int .i64 0) := HQ.out.cell 0
              have kQ1 : v22.cell? ⟨w.heap.size + 1, 1, none⟩ = some (.int .i64 0) := HQ.out.cell 1
              have kQ2 : v22.cell? ⟨w.heap.size + 1, 2, none⟩ = some (.int .i64 0) := HQ.out.cell 2
              have kN0 : v22.cell? ⟨w.heap.size + 1 + 1, 0, none⟩ = some (.int .i64 pu) := HN.out.cell 0
              have jN0 : v22.frozen? ⟨w.heap.size + 1 + 1, 0, none⟩ = false := HN.out.frozen 0
              have kN1 : v22.cell? ⟨w.heap.size + 1 + 1, 1, none⟩ = some (.int .i64 pd) := HN.out.cell 1
              have jN1 : v22.frozen? ⟨w.heap.size + 1 + 1, 1, none⟩ = false := HN.out.frozen 1
              have kN2 : v22.cell? ⟨w.heap.size + 1 + 1, 2, none⟩ = some (.int .i64 po) := HN.out.cell 2
              have jN2 : v22.frozen? ⟨w.heap.size + 1 + 1, 2, none⟩ = false := HN.out.frozen 2
              have kX0 : v22.cell? ⟨gx, 0, none⟩ = some (.int .i64 p2) := HX.out.cell 0
              have kX1 : v22.cell? ⟨gx, 1, none⟩ = some (.bool false) := HX.out.cell 1
              refine (K2.out _ (HR.out.kept EE.out)).mono ?_
              rintro e v23 ⟨rfl, hb⟩
              clear kS0 kS1 kQ0 kQ1 kQ2 kN0 jN0 kN1 jN1 kN2 jN2 kX0 kX1
              have HS := Lib.hid (Blk.next (w := v22) HS.out hb)
              have HQ := Lib.hid (Blk.next (w := v22) HQ.out hb)
              have HN := Lib.hid (Blk.next (w := v22) HN.out hb)
              have HX := Lib.hid (Blk.next (w := v22) HX.out hb)
              have EE := Lib.hid (EE.out.trans (hb.mono EE.out.size))
              clear hb
              have kS0 : v23.cell? ⟨w.heap.size, 0, none⟩ = some (.int .i64 f) := HS.out.cell 0
              have kS1 : v23.cell? ⟨w.heap.size, 1, none⟩ = some (.int .i64 tt) := HS.out.cell 1
              have kQ0 : v23.cell? ⟨w.heap.size + 1, 0, none⟩ = some (.int .i64 0) := HQ.out.cell 0
              have kQ1 : v23.cell? ⟨w.heap.size + 1, 1, none⟩ = some (.int .i64 0) := HQ.out.cell 1
              have kQ2 : v23.cell? ⟨w.heap.size + 1, 2, none⟩ = some (.int .i64 0) := HQ.out.cell 2
              have kN0 : v23.cell? ⟨w.heap.size + 1 + 1, 0, none⟩ = some (.int .i64 pu) := HN.out.cell 0
              have jN0 : v23.frozen? ⟨w.heap.size + 1 + 1, 0, none⟩ = false := HN.out.frozen 0
              have kN1 : v23.cell? ⟨w.heap.size + 1 + 1, 1, none⟩ = some (.int .i64 pd) := HN.out.cell 1
              have jN1 : v23.frozen? ⟨w.heap.size + 1 + 1, 1, none⟩ = false := HN.out.frozen 1
              have kN2 : v23.cell? ⟨w.heap.size + 1 + 1, 2, none⟩ = some (.int .i64 po) := HN.out.cell 2
              have jN2 : v23.frozen? ⟨w.heap.size + 1 + 1, 2, none⟩ = false := HN.out.frozen 2
              have kX0 : v23.cell? ⟨gx, 0, none⟩ = some (.int .i64 p2) := HX.out.cell 0
              have kX1 : v23.cell? ⟨gx, 1, none⟩ = some (.bool false) := HX.out.cell 1
              have lS := HS.out.lt
              have lQ := HQ.out.lt
              have lN := HN.out.lt
              have lX := HX.out.lt
              have GN := Lib.hid ((HN.out.set 1 (.int .i64 (pd + 1))).alloc (.cells #[.int .i64 p1, .bool d1] 55))
              have GS := Lib.hid ((HS.out.far (p := ⟨w.heap.size + 1 + 1, 1, none⟩) (by show w.heap.size ≠ w.heap.size + 1 + 1; omega) (.int .i64 (pd + 1))).alloc (.cells #[.int .i64 p1, .bool d1] 55))
              have GQ := Lib.hid ((HQ.out.far (p := ⟨w.heap.size + 1 + 1, 1, none⟩) (by show w.heap.size + 1 ≠ w.heap.size + 1 + 1; omega) (.int .i64 (pd + 1))).alloc (.cells #[.int .i64 p1, .bool d1] 55))
              have GE := Lib.hid ((EE.out.setCell (p := ⟨w.heap.size + 1 + 1, 1, none⟩) (by show w.heap.size ≤ w.heap.size + 1 + 1; omega) (.int .i64 (pd + 1))).alloc (EE.out.setCell (p := ⟨w.heap.size + 1 + 1, 1, none⟩) (by show w.heap.size ≤ w.heap.size + 1 + 1; omega) (.int .i64 (pd + 1))).size (.cells #[.int .i64 p1, .bool d1] 55))
              go_wp2_with fail
              go_roundw
              case rel => exact ⟨m + 1, by omega, congrArg (Value.int .i64) (by have := HT.out; omega), by rw [E1.out, E2.out, E3.out]; exact GN.out, GS.out, GQ.out, GE.out⟩
              case measure => have := HT.out; simp [intOf]; omega
        · have G6' : dorL O (lastL T t n) = true := by rw [G2.out]; exact G6.out
          have TF := tick_door (P := P) (D := D) G6'
          have E1 := Lib.hid (show sumF (upL T P D O n) f (m + 1) = pu by (rw [Spu.out, TF.1]) <;> (first | rfl | omega | (split <;> omega)))
          have E2 := Lib.hid (show sumF (dnL T P D O n) f (m + 1) = pd by (rw [Spd.out, TF.2.1]) <;> (first | rfl | omega | (split <;> omega)))
          have E3 := Lib.hid (show sumF (doL T O n) f (m + 1) = po + 1 by (rw [Spo.out, TF.2.2]) <;> (first | rfl | omega))
          clear TF
          have wo : IntKind.i64.wrap (po + 1) = po + 1 := IntWalk.i64_in _ (by omega)
          clear G6'
          have kS0 : wr.cell? ⟨w.heap.size, 0, none⟩ = some (.int .i64 f) := HS.out.cell 0
          have kS1 : wr.cell? ⟨w.heap.size, 1, none⟩ = some (.int .i64 tt) := HS.out.cell 1
          have kQ0 : wr.cell? ⟨w.heap.size + 1, 0, none⟩ = some (.int .i64 0) := HQ.out.cell 0
          have kQ1 : wr.cell? ⟨w.heap.size + 1, 1, none⟩ = some (.int .i64 0) := HQ.out.cell 1
          have kQ2 : wr.cell? ⟨w.heap.size + 1, 2, none⟩ = some (.int .i64 0) := HQ.out.cell 2
          have kN0 : wr.cell? ⟨w.heap.size + 1 + 1, 0, none⟩ = some (.int .i64 pu) := HN.out.cell 0
          have jN0 : wr.frozen? ⟨w.heap.size + 1 + 1, 0, none⟩ = false := HN.out.frozen 0
          have kN1 : wr.cell? ⟨w.heap.size + 1 + 1, 1, none⟩ = some (.int .i64 pd) := HN.out.cell 1
          have jN1 : wr.frozen? ⟨w.heap.size + 1 + 1, 1, none⟩ = false := HN.out.frozen 1
          have kN2 : wr.cell? ⟨w.heap.size + 1 + 1, 2, none⟩ = some (.int .i64 po) := HN.out.cell 2
          have jN2 : wr.frozen? ⟨w.heap.size + 1 + 1, 2, none⟩ = false := HN.out.frozen 2
          go_wp2_with fail
          refine (K1.out _ (HR.out.kept EE.out)).mono ?_
          rintro e v21 ⟨rfl, hb⟩
          clear kS0 kS1 kQ0 kQ1 kQ2 kN0 jN0 kN1 jN1 kN2 jN2
          have HS := Lib.hid (Blk.next (w := wr) HS.out hb)
          have HQ := Lib.hid (Blk.next (w := wr) HQ.out hb)
          have HN := Lib.hid (Blk.next (w := wr) HN.out hb)
          have EE := Lib.hid (EE.out.trans (hb.mono EE.out.size))
          clear hb
          have kS0 : v21.cell? ⟨w.heap.size, 0, none⟩ = some (.int .i64 f) := HS.out.cell 0
          have kS1 : v21.cell? ⟨w.heap.size, 1, none⟩ = some (.int .i64 tt) := HS.out.cell 1
          have kQ0 : v21.cell? ⟨w.heap.size + 1, 0, none⟩ = some (.int .i64 0) := HQ.out.cell 0
          have kQ1 : v21.cell? ⟨w.heap.size + 1, 1, none⟩ = some (.int .i64 0) := HQ.out.cell 1
          have kQ2 : v21.cell? ⟨w.heap.size + 1, 2, none⟩ = some (.int .i64 0) := HQ.out.cell 2
          have kN0 : v21.cell? ⟨w.heap.size + 1 + 1, 0, none⟩ = some (.int .i64 pu) := HN.out.cell 0
          have jN0 : v21.frozen? ⟨w.heap.size + 1 + 1, 0, none⟩ = false := HN.out.frozen 0
          have kN1 : v21.cell? ⟨w.heap.size + 1 + 1, 1, none⟩ = some (.int .i64 pd) := HN.out.cell 1
          have jN1 : v21.frozen? ⟨w.heap.size + 1 + 1, 1, none⟩ = false := HN.out.frozen 1
          have kN2 : v21.cell? ⟨w.heap.size + 1 + 1, 2, none⟩ = some (.int .i64 po) := HN.out.cell 2
          have jN2 : v21.frozen? ⟨w.heap.size + 1 + 1, 2, none⟩ = false := HN.out.frozen 2
          have lS := HS.out.lt
          have lQ := HQ.out.lt
          have lN := HN.out.lt
          go_wp2_with fail
          clear kS0 kS1 kQ0 kQ1 kQ2 kN0 jN0 kN1 jN1 kN2 jN2 lS lQ lN
          have GS : Blk (v21.alloc (.cells #[.int .i64 p2, .bool true] 55)) (w.heap.size) 24 #[.int .i64 f, .int .i64 tt] := HS.out.alloc (.cells #[.int .i64 p2, .bool true] 55)
          have GQ : Blk (v21.alloc (.cells #[.int .i64 p2, .bool true] 55)) (w.heap.size + 1) 25 #[.int .i64 0, .int .i64 0, .int .i64 0] := HQ.out.alloc (.cells #[.int .i64 p2, .bool true] 55)
          have GN : Blk (v21.alloc (.cells #[.int .i64 p2, .bool true] 55)) (w.heap.size + 1 + 1) 25 #[.int .i64 pu, .int .i64 pd, .int .i64 po] := HN.out.alloc (.cells #[.int .i64 p2, .bool true] 55)
          have GX : Blk (v21.alloc (.cells #[.int .i64 p2, .bool true] 55)) (v21.heap.size) 55 #[.int .i64 p2, .bool true] := Blk.new v21 _ _
          have GE : Below w.heap.size w (v21.alloc (.cells #[.int .i64 p2, .bool true] 55)) := EE.out.alloc EE.out.size (.cells #[.int .i64 p2, .bool true] 55)
          obtain ⟨gx, hgx⟩ : ∃ g, v21.heap.size = g := ⟨_, rfl⟩
          have ne3_0 : gx ≠ w.heap.size := by have := HS.out.lt; omega
          have ne0_3 : w.heap.size ≠ gx := by have := HS.out.lt; omega
          have ne3_1 : gx ≠ w.heap.size + 1 := by have := HQ.out.lt; omega
          have ne1_3 : w.heap.size + 1 ≠ gx := by have := HQ.out.lt; omega
          have ne3_2 : gx ≠ w.heap.size + 1 + 1 := by have := HN.out.lt; omega
          have ne2_3 : w.heap.size + 1 + 1 ≠ gx := by have := HN.out.lt; omega
          have gegx : w.heap.size ≤ gx := by have := EE.out.size; omega
          rw [hgx] at GX ⊢
          clear hgx
          obtain ⟨v22, hv22⟩ : ∃ V, (v21.alloc (.cells #[.int .i64 p2, .bool true] 55)) = V := ⟨_, rfl⟩
          rw [hv22] at GS GQ GN GX GE ⊢
          have HS := Lib.hid GS
          have HQ := Lib.hid GQ
          have HN := Lib.hid GN
          have HX := Lib.hid GX
          have EE := Lib.hid GE
          clear hv22 GS GQ GN GX GE
          have kS0 : v22.cell? ⟨w.heap.size, 0, none⟩ = some (.int .i64 f) := HS.out.cell 0
          have kS1 : v22.cell? ⟨w.heap.size, 1, none⟩ = some (.int .i64 tt) := HS.out.cell 1
          have kQ0 : v22.cell? ⟨w.heap.size + 1, 0, none⟩ = some (.int .i64 0) := HQ.out.cell 0
          have kQ1 : v22.cell? ⟨w.heap.size + 1, 1, none⟩ = some (.int .i64 0) := HQ.out.cell 1
          have kQ2 : v22.cell? ⟨w.heap.size + 1, 2, none⟩ = some (.int .i64 0) := HQ.out.cell 2
          have kN0 : v22.cell? ⟨w.heap.size + 1 + 1, 0, none⟩ = some (.int .i64 pu) := HN.out.cell 0
          have jN0 : v22.frozen? ⟨w.heap.size + 1 + 1, 0, none⟩ = false := HN.out.frozen 0
          have kN1 : v22.cell? ⟨w.heap.size + 1 + 1, 1, none⟩ = some (.int .i64 pd) := HN.out.cell 1
          have jN1 : v22.frozen? ⟨w.heap.size + 1 + 1, 1, none⟩ = false := HN.out.frozen 1
          have kN2 : v22.cell? ⟨w.heap.size + 1 + 1, 2, none⟩ = some (.int .i64 po) := HN.out.cell 2
          have jN2 : v22.frozen? ⟨w.heap.size + 1 + 1, 2, none⟩ = false := HN.out.frozen 2
          have kX0 : v22.cell? ⟨gx, 0, none⟩ = some (.int .i64 p2) := HX.out.cell 0
          have kX1 : v22.cell? ⟨gx, 1, none⟩ = some (.bool true) := HX.out.cell 1
          refine (K2.out _ (HR.out.kept EE.out)).mono ?_
          rintro e v23 ⟨rfl, hb⟩
          clear kS0 kS1 kQ0 kQ1 kQ2 kN0 jN0 kN1 jN1 kN2 jN2 kX0 kX1
          have HS := Lib.hid (Blk.next (w := v22) HS.out hb)
          have HQ := Lib.hid (Blk.next (w := v22) HQ.out hb)
          have HN := Lib.hid (Blk.next (w := v22) HN.out hb)
          have HX := Lib.hid (Blk.next (w := v22) HX.out hb)
          have EE := Lib.hid (EE.out.trans (hb.mono EE.out.size))
          clear hb
          have kS0 : v23.cell? ⟨w.heap.size, 0, none⟩ = some (.int .i64 f) := HS.out.cell 0
          have kS1 : v23.cell? ⟨w.heap.size, 1, none⟩ = some (.int .i64 tt) := HS.out.cell 1
          have kQ0 : v23.cell? ⟨w.heap.size + 1, 0, none⟩ = some (.int .i64 0) := HQ.out.cell 0
          have kQ1 : v23.cell? ⟨w.heap.size + 1, 1, none⟩ = some (.int .i64 0) := HQ.out.cell 1
          have kQ2 : v23.cell? ⟨w.heap.size + 1, 2, none⟩ = some (.int .i64 0) := HQ.out.cell 2
          have kN0 : v23.cell? ⟨w.heap.size + 1 + 1, 0, none⟩ = some (.int .i64 pu) := HN.out.cell 0
          have jN0 : v23.frozen? ⟨w.heap.size + 1 + 1, 0, none⟩ = false := HN.out.frozen 0
          have kN1 : v23.cell? ⟨w.heap.size + 1 + 1, 1, none⟩ = some (.int .i64 pd) := HN.out.cell 1
          have jN1 : v23.frozen? ⟨w.heap.size + 1 + 1, 1, none⟩ = false := HN.out.frozen 1
          have kN2 : v23.cell? ⟨w.heap.size + 1 + 1, 2, none⟩ = some (.int .i64 po) := HN.out.cell 2
          have jN2 : v23.frozen? ⟨w.heap.size + 1 + 1, 2, none⟩ = false := HN.out.frozen 2
          have kX0 : v23.cell? ⟨gx, 0, none⟩ = some (.int .i64 p2) := HX.out.cell 0
          have kX1 : v23.cell? ⟨gx, 1, none⟩ = some (.bool true) := HX.out.cell 1
          have lS := HS.out.lt
          have lQ := HQ.out.lt
          have lN := HN.out.lt
          have lX := HX.out.lt
          have GN := Lib.hid ((HN.out.set 2 (.int .i64 (po + 1))).alloc (.cells #[.int .i64 p1, .bool d1] 55))
          have GS := Lib.hid ((HS.out.far (p := ⟨w.heap.size + 1 + 1, 2, none⟩) (by show w.heap.size ≠ w.heap.size + 1 + 1; omega) (.int .i64 (po + 1))).alloc (.cells #[.int .i64 p1, .bool d1] 55))
          have GQ := Lib.hid ((HQ.out.far (p := ⟨w.heap.size + 1 + 1, 2, none⟩) (by show w.heap.size + 1 ≠ w.heap.size + 1 + 1; omega) (.int .i64 (po + 1))).alloc (.cells #[.int .i64 p1, .bool d1] 55))
          have GE := Lib.hid ((EE.out.setCell (p := ⟨w.heap.size + 1 + 1, 2, none⟩) (by show w.heap.size ≤ w.heap.size + 1 + 1; omega) (.int .i64 (po + 1))).alloc (EE.out.setCell (p := ⟨w.heap.size + 1 + 1, 2, none⟩) (by show w.heap.size ≤ w.heap.size + 1 + 1; omega) (.int .i64 (po + 1))).size (.cells #[.int .i64 p1, .bool d1] 55))
          go_wp2_with fail
          go_roundw
          case rel => exact ⟨m + 1, by omega, congrArg (Value.int .i64) (by have := HT.out; omega), by rw [E1.out, E2.out, E3.out]; exact GN.out, GS.out, GQ.out, GE.out⟩
          case measure => have := HT.out; simp [intOf]; omega
    · obtain rfl : m = M := by omega
      have hnt : ¬ (f + (m : Int) < tt) := by omega
      have kS0 : wr.cell? ⟨w.heap.size, 0, none⟩ = some (.int .i64 f) := HS.out.cell 0
      have kS1 : wr.cell? ⟨w.heap.size, 1, none⟩ = some (.int .i64 tt) := HS.out.cell 1
      have kQ0 : wr.cell? ⟨w.heap.size + 1, 0, none⟩ = some (.int .i64 0) := HQ.out.cell 0
      have jQ0 : wr.frozen? ⟨w.heap.size + 1, 0, none⟩ = false := HQ.out.frozen 0
      have kQ1 : wr.cell? ⟨w.heap.size + 1, 1, none⟩ = some (.int .i64 0) := HQ.out.cell 1
      have jQ1 : wr.frozen? ⟨w.heap.size + 1, 1, none⟩ = false := HQ.out.frozen 1
      have kQ2 : wr.cell? ⟨w.heap.size + 1, 2, none⟩ = some (.int .i64 0) := HQ.out.cell 2
      have jQ2 : wr.frozen? ⟨w.heap.size + 1, 2, none⟩ = false := HQ.out.frozen 2
      have kN0 : wr.cell? ⟨w.heap.size + 1 + 1, 0, none⟩ = some (.int .i64 pu) := HN.out.cell 0
      have kN1 : wr.cell? ⟨w.heap.size + 1 + 1, 1, none⟩ = some (.int .i64 pd) := HN.out.cell 1
      have kN2 : wr.cell? ⟨w.heap.size + 1 + 1, 2, none⟩ = some (.int .i64 po) := HN.out.cell 2
      go_wp2_with fail
      have GQ := ((HQ.out.set 0 (.int .i64 pu)).set 1 (.int .i64 pd)).set 2 (.int .i64 po)
      have EF := Lib.hid (((EE.out.setCell (p := ⟨w.heap.size + 1, 0, none⟩) (by show w.heap.size ≤ w.heap.size + 1; omega) (.int .i64 pu)).setCell (p := ⟨w.heap.size + 1, 1, none⟩) (by show w.heap.size ≤ w.heap.size + 1; omega) (.int .i64 pd)).setCell (p := ⟨w.heap.size + 1, 2, none⟩) (by show w.heap.size ≤ w.heap.size + 1; omega) (.int .i64 po))
      have g0 := GQ.cell 0; have g1 := GQ.cell 1; have g2 := GQ.cell 2
      clear kS0 kS1 kQ0 jQ0 kQ1 jQ1 kQ2 jQ2 kN0 kN1 kN2
      clear GQ
      try simp only [Exit.inBlock, Exit.then]
      refine bodyPost_ret (v := .agg #[.int .i64 pu, .int .i64 pd, .int .i64 po]) (by simp [results, Try.results9, go_sem, g0, g1, g2]) rfl ?_
      have hq := HEE.out _ EF.out
      rw [Hpu.out, Hpd.out, Hpo.out] at hq
      exact hq
end Go.Proofs.Ytodfjghgcphhhaa
