/- The walk of EtaLeast: it answers true for every input, and leaves all old blocks as they were. No condition but the laid tables, which are tied to the text. -/
import Derived.Test.YteebeiflipfbkaaDoorRows
import Derived.Test.YteebeiflipfbkaaDoorRowKit
import Derived.Test.YteebeiflipfbkaaDoorRowS
import Derived.Test.YteebeiflipfbkaaDoorRowZ
import Derived.Test.YteebeiflipfbkaaDoorRowV
import Derived.Test.YteebeiflipfbkaaDoorRowS3
import Derived.Test.YteebeiflipfbkaaDoorBlocks
import Derived.Test.YteebeiflipfbkaaDoorSlicesEq
import Derived.Test.YteebeiflipfbkaaDoorSlicesEqM
import Derived.Test.YteebeiflipfbkaaDoorRowL
import Derived.Test.YteebeiflipfbkaaDoorMakeI
import Derived.Test.YteebeiflipfbkaaDoorCmp
import Derived.Test.YteebeiflipfbkaaDoorPlaceA
import Derived.Test.YteebeiflipfbkaaDoorVetA
import Derived.Test.YteebeiflipfbkaaDoorVetB
import Derived.Test.YteebeiflipfbkaaDoorNearMath
import Derived.Test.YteebeiflipfbkaaDoorNearA
import Derived.Test.YteebeiflipfbkaaDoorNearB
import Derived.Test.YteebeiflipfbkaaDoorNearC
import Derived.Test.YteebeiflipfbkaaDoorNearG
import Derived.Test.YteebeiflipfbkaaDoorBitsMath
import Derived.Test.YteebeiflipfbkaaDoorBitsA2
import Derived.Test.YteebeiflipfbkaaDoorBitsD
import Derived.Test.YteebeiflipfbkaaDoorBitsE
import Derived.Test.YteebeiflipfbkaaDoorBitsG
import Derived.Test.YteebeiflipfbkaaDoorBitsH
import Derived.Test.YteebeiflipfbkaaDoorBitsK
import Derived.Test.YteebeiflipfbkaaDoorBitsL
import Derived.Test.YteebeiflipfbkaaDoorBitsN
import Derived.Test.YteebeiflipfbkaaDoorBitsO
import Derived.Test.YteebeiflipfbkaaDoorBitsP
import Derived.Test.YteebeiflipfbkaaDoorBitsQ
import Derived.Test.YteebeiflipfbkaaDoorBitsR
import Derived.Test.YteebeiflipfbkaaDoorBitsS
import Derived.Test.YteebeiflipfbkaaDoorBitsU
import Derived.Test.YteebeiflipfbkaaDoorBitsV
import Derived.Test.YteebeiflipfbkaaDoorBitsX
import Derived.Test.YteebeiflipfbkaaDoorWantA
import Derived.Test.YteebeiflipfbkaaDoorWantB
import Derived.Test.YteebeiflipfbkaaDoorWantC
import Derived.Test.YteebeiflipfbkaaDoorEtaA
import Derived.Test.YteebeiflipfbkaaDoorEtaB
import Derived.WalkKit
import Derived.ProofKit
import Derived.OpenShut
import Derived.Deep.QuietTactic
import Derived.BigQuiet
import Derived.Lib.SmallJoins
import Derived.Lib.Hide
import Derived.WalkSpells
import Derived.WalkLawsBesides
import Derived.Lib.TrailingZeros
import Derived.Lib.LaidTab
import Derived.Lib.LaidU8
import Derived.Deep.LoopGhost
import Derived.Deep.RegionHeld3
import Derived.IntWalk
namespace Go.Proofs.YteebeiflipfbkaaDoor.etaLeast
open Go.ChangeShapes Go.WideShapes Go.ChangeAt Go.RowKit Go.Joins
set_option linter.unusedSimpArgs false
set_option linter.unusedVariables false

theorem bz_gT : Tryd.prog.globalNamed "math/bits.deBruijn64tab" = some 0 := by kernel_rfl
theorem bz_gTType : (Tryd.prog.globals[0]?).map (·.type) = some 82 := by kernel_rfl
theorem tz_of_laid {w : World} (h0 : laidMetH Tryd.prog Rows.etaLeastRow.laid w) : TzT w := by
  have h : laidMet Tryd.prog Rows.etaLeastRow.laid w := h0
  obtain ⟨g', t', cs, fuel, p, hg', ht', hvar, hd⟩ := Lib.laidMet.reads h (.head _)
  obtain rfl := Option.some.inj (bz_gT.symm.trans hg')
  obtain rfl := Option.some.inj (bz_gTType.symm.trans ht')
  have e := Lib.cells_of_tab (zs := Lib.deBruijn64tab.map Int.ofNat) Tryd.underlying82 Tryd.underlying5 (by kernel_rfl) (by kernel_rfl) hd
  unfold World.var? at hvar
  rw [bz_gT] at hvar
  simp only [Option.bind_some] at hvar
  split at hvar
  · rename_i cs' t fr hg
    cases hvar
    intro j hj
    show w.cell? _ = _
    rw [cell_of_row w _ j cs t fr hg, ← Array.getElem?_toList, e, List.getElem?_map, List.getElem?_map, List.getElem?_eq_getElem hj, List.getD_eq_getElem?_getD, List.getElem?_eq_getElem hj]
    rfl
  · cases hvar
theorem blk_lastE {w w' : World} {cs : Array Value} {T : TypeId} (hb : Below (w.alloc (.cells cs T)).drew.heap.size (w.alloc (.cells cs T)).drew w') : Blk w' w.heap.size T cs := Blk.next (w := (w.alloc (.cells cs T)).drew) (Blk.new w cs T) hb
theorem far2E {w : World} {p q r : Addr} {u v x : Value} (h : w.cell? r = some x) (hp : r.block ≠ p.block) (hq : r.block ≠ q.block) : ((w.setCell p u).setCell q v).cell? r = some x := by
  rw [World.cell?_of_block (Below.heap_setCell _ _ _ _ hq), World.cell?_of_block (Below.heap_setCell _ _ _ _ hp)]
  exact h
theorem rdV_one {w : World} {g : Nat} {T : TypeId} {cs : Array Value} (hB : Blk w g T cs) (h6 : cs.size = 6) (hsh : ∀ j v, cs[j]? = some v → shCar j v) : RdV w 6 shCar (some ⟨g, 0, none⟩) 1 (fun _ j => (cs[j]?).getD undef) := fun i hi => by
  obtain rfl : i = 0 := by omega
  refine ⟨_, rfl, hB.lt, fun j hj => ?_⟩
  have e : cs[j]? = some (cs[j]'(by omega)) := Array.getElem?_eq_getElem (by omega)
  have ha : (⟨g, 0, none⟩ : Addr).add (0 * 6 + j) = ⟨g, j, none⟩ := by
    unfold Addr.add
    by_cases h : 0 * 6 + j = 0
    · rw [if_pos h]; simp at h; subst h; rfl
    · rw [if_neg h]; simp
  rw [ha, hB.cell j]
  refine ⟨?_, ?_⟩
  · show cs[j]? = some ((cs[j]?).getD undef); rw [e]; rfl
  · show shCar j ((cs[j]?).getD undef); rw [e]; exact hsh j _ e
theorem far_max (p m : Int) : max (m - p) (-(m - p)) = farV p m := by unfold farV; split <;> omega
set_option maxRecDepth 100000 in
set_option maxHeartbeats 4000000 in
theorem walk_f (s : Nat → Int) (A : Option Addr) (n c : Nat) (z : Nat → Nat → Int) (p d md le : Int) (wa : Bool) (RA : Option Addr) (rn rc : Nat) (CA : Option Addr) (k cd : Nat) (cz : Nat → Nat → Int) (fl dir : Int) (w : World) (hT : TzT w) (hr : RdZ w 3 A n z) (hv : RdK w .u64 2 CA k cz) (hp : (Lit.int .i64 p).wf = true) (hn : n ≤ maxLen) (hrc : rn ≤ rc) (hrm : rc ≤ maxLen) (hkd : k ≤ cd) (hdm : cd ≤ maxLen) :
    Calls Tryd.prog 3 #[scnV s A n c, carV p d md le wa (.slice RA rn rc), .agg #[.slice CA k cd, .int .i64 fl, .int .i64 dir]] w fun e w' => e = .returned (.bool true) ∧ Below w.heap.size w w' := by
  have WC := fun C v w (hr : RdZ w 3 A n z) (hv : RdV w 6 shCar C 1 v) => within_any s A C n c 1 1 z v w hr hv
  have WS := fun w (hv : RdK w .u64 2 CA k cz) => stops_any s A n c CA k cd cz w hv hkd hdm
  have EO := fun F m q r w hT a1 a2 a3 a4 a5 a6 a7 a8 a9 a10 a11 a12 a13 a14 => eof0_any s A n c p 0 wa (.slice RA rn rc) F fl 1 m q r w hT a1 a2 a3 a4 a5 a6 a7 a8 a9 a10 a11 a12 a13 a14
  unfold scnV carV at *
  have A0 : Blk ((((w.alloc (.cells #[(.int .i64 (s 0) : Value), .int .i64 (s 1), .int .i64 (s 2), .int .i64 (s 3), .int .i64 (s 4), .int .i64 (s 5), .int .i64 (s 6), .int .i64 (s 7), .slice A n c, .int .i64 (s 9), .int .i64 (s 10), .int .i64 (s 11), .int .i64 (s 12)] 25)).alloc (.cells #[(.int .i64 p : Value), .int .i64 0, .int .i64 0, .int .i64 0, .bool wa, .slice RA rn rc] 29)).alloc (.cells #[(.slice CA k cd : Value), .int .i64 fl, .int .i64 dir] 32)).alloc (.cells #[(.int .i64 p : Value), .int .i64 0, .int .i64 0, .int .i64 0, .bool wa, .slice RA rn rc] 29)) w.heap.size 25 #[(.int .i64 (s 0) : Value), .int .i64 (s 1), .int .i64 (s 2), .int .i64 (s 3), .int .i64 (s 4), .int .i64 (s 5), .int .i64 (s 6), .int .i64 (s 7), .slice A n c, .int .i64 (s 9), .int .i64 (s 10), .int .i64 (s 11), .int .i64 (s 12)] := (((Blk.new w _ _).alloc _).alloc _).alloc _
  have A1 : Blk ((((w.alloc (.cells #[(.int .i64 (s 0) : Value), .int .i64 (s 1), .int .i64 (s 2), .int .i64 (s 3), .int .i64 (s 4), .int .i64 (s 5), .int .i64 (s 6), .int .i64 (s 7), .slice A n c, .int .i64 (s 9), .int .i64 (s 10), .int .i64 (s 11), .int .i64 (s 12)] 25)).alloc (.cells #[(.int .i64 p : Value), .int .i64 0, .int .i64 0, .int .i64 0, .bool wa, .slice RA rn rc] 29)).alloc (.cells #[(.slice CA k cd : Value), .int .i64 fl, .int .i64 dir] 32)).alloc (.cells #[(.int .i64 p : Value), .int .i64 0, .int .i64 0, .int .i64 0, .bool wa, .slice RA rn rc] 29)) (w.heap.size + 1) 29 #[(.int .i64 p : Value), .int .i64 0, .int .i64 0, .int .i64 0, .bool wa, .slice RA rn rc] := by
    have h := ((Blk.new (w.alloc (.cells #[(.int .i64 (s 0) : Value), .int .i64 (s 1), .int .i64 (s 2), .int .i64 (s 3), .int .i64 (s 4), .int .i64 (s 5), .int .i64 (s 6), .int .i64 (s 7), .slice A n c, .int .i64 (s 9), .int .i64 (s 10), .int .i64 (s 11), .int .i64 (s 12)] 25)) #[(.int .i64 p : Value), .int .i64 0, .int .i64 0, .int .i64 0, .bool wa, .slice RA rn rc] 29).alloc (.cells #[(.slice CA k cd : Value), .int .i64 fl, .int .i64 dir] 32)).alloc (.cells #[(.int .i64 p : Value), .int .i64 0, .int .i64 0, .int .i64 0, .bool wa, .slice RA rn rc] 29)
    rw [show (w.alloc (.cells #[(.int .i64 (s 0) : Value), .int .i64 (s 1), .int .i64 (s 2), .int .i64 (s 3), .int .i64 (s 4), .int .i64 (s 5), .int .i64 (s 6), .int .i64 (s 7), .slice A n c, .int .i64 (s 9), .int .i64 (s 10), .int .i64 (s 11), .int .i64 (s 12)] 25)).heap.size = w.heap.size + 1 by simp] at h
    exact h
  have A2 : Blk ((((w.alloc (.cells #[(.int .i64 (s 0) : Value), .int .i64 (s 1), .int .i64 (s 2), .int .i64 (s 3), .int .i64 (s 4), .int .i64 (s 5), .int .i64 (s 6), .int .i64 (s 7), .slice A n c, .int .i64 (s 9), .int .i64 (s 10), .int .i64 (s 11), .int .i64 (s 12)] 25)).alloc (.cells #[(.int .i64 p : Value), .int .i64 0, .int .i64 0, .int .i64 0, .bool wa, .slice RA rn rc] 29)).alloc (.cells #[(.slice CA k cd : Value), .int .i64 fl, .int .i64 dir] 32)).alloc (.cells #[(.int .i64 p : Value), .int .i64 0, .int .i64 0, .int .i64 0, .bool wa, .slice RA rn rc] 29)) (w.heap.size + 2) 32 #[(.slice CA k cd : Value), .int .i64 fl, .int .i64 dir] := by
    have h := (Blk.new ((w.alloc (.cells #[(.int .i64 (s 0) : Value), .int .i64 (s 1), .int .i64 (s 2), .int .i64 (s 3), .int .i64 (s 4), .int .i64 (s 5), .int .i64 (s 6), .int .i64 (s 7), .slice A n c, .int .i64 (s 9), .int .i64 (s 10), .int .i64 (s 11), .int .i64 (s 12)] 25)).alloc (.cells #[(.int .i64 p : Value), .int .i64 0, .int .i64 0, .int .i64 0, .bool wa, .slice RA rn rc] 29)) #[(.slice CA k cd : Value), .int .i64 fl, .int .i64 dir] 32).alloc (.cells #[(.int .i64 p : Value), .int .i64 0, .int .i64 0, .int .i64 0, .bool wa, .slice RA rn rc] 29)
    rw [show ((w.alloc (.cells #[(.int .i64 (s 0) : Value), .int .i64 (s 1), .int .i64 (s 2), .int .i64 (s 3), .int .i64 (s 4), .int .i64 (s 5), .int .i64 (s 6), .int .i64 (s 7), .slice A n c, .int .i64 (s 9), .int .i64 (s 10), .int .i64 (s 11), .int .i64 (s 12)] 25)).alloc (.cells #[(.int .i64 p : Value), .int .i64 0, .int .i64 0, .int .i64 0, .bool wa, .slice RA rn rc] 29)).heap.size = w.heap.size + 2 by simp] at h
    exact h
  have A3 : Blk ((((w.alloc (.cells #[(.int .i64 (s 0) : Value), .int .i64 (s 1), .int .i64 (s 2), .int .i64 (s 3), .int .i64 (s 4), .int .i64 (s 5), .int .i64 (s 6), .int .i64 (s 7), .slice A n c, .int .i64 (s 9), .int .i64 (s 10), .int .i64 (s 11), .int .i64 (s 12)] 25)).alloc (.cells #[(.int .i64 p : Value), .int .i64 0, .int .i64 0, .int .i64 0, .bool wa, .slice RA rn rc] 29)).alloc (.cells #[(.slice CA k cd : Value), .int .i64 fl, .int .i64 dir] 32)).alloc (.cells #[(.int .i64 p : Value), .int .i64 0, .int .i64 0, .int .i64 0, .bool wa, .slice RA rn rc] 29)) (w.heap.size + 1 + 1 + 1) 29 #[(.int .i64 p : Value), .int .i64 0, .int .i64 0, .int .i64 0, .bool wa, .slice RA rn rc] := by
    have h := Blk.new (((w.alloc (.cells #[(.int .i64 (s 0) : Value), .int .i64 (s 1), .int .i64 (s 2), .int .i64 (s 3), .int .i64 (s 4), .int .i64 (s 5), .int .i64 (s 6), .int .i64 (s 7), .slice A n c, .int .i64 (s 9), .int .i64 (s 10), .int .i64 (s 11), .int .i64 (s 12)] 25)).alloc (.cells #[(.int .i64 p : Value), .int .i64 0, .int .i64 0, .int .i64 0, .bool wa, .slice RA rn rc] 29)).alloc (.cells #[(.slice CA k cd : Value), .int .i64 fl, .int .i64 dir] 32)) #[(.int .i64 p : Value), .int .i64 0, .int .i64 0, .int .i64 0, .bool wa, .slice RA rn rc] 29
    rw [show (((w.alloc (.cells #[(.int .i64 (s 0) : Value), .int .i64 (s 1), .int .i64 (s 2), .int .i64 (s 3), .int .i64 (s 4), .int .i64 (s 5), .int .i64 (s 6), .int .i64 (s 7), .slice A n c, .int .i64 (s 9), .int .i64 (s 10), .int .i64 (s 11), .int .i64 (s 12)] 25)).alloc (.cells #[(.int .i64 p : Value), .int .i64 0, .int .i64 0, .int .i64 0, .bool wa, .slice RA rn rc] 29)).alloc (.cells #[(.slice CA k cd : Value), .int .i64 fl, .int .i64 dir] 32)).heap.size = w.heap.size + 1 + 1 + 1 by simp] at h
    exact h
  have E0 : Below w.heap.size w ((((w.alloc (.cells #[(.int .i64 (s 0) : Value), .int .i64 (s 1), .int .i64 (s 2), .int .i64 (s 3), .int .i64 (s 4), .int .i64 (s 5), .int .i64 (s 6), .int .i64 (s 7), .slice A n c, .int .i64 (s 9), .int .i64 (s 10), .int .i64 (s 11), .int .i64 (s 12)] 25)).alloc (.cells #[(.int .i64 p : Value), .int .i64 0, .int .i64 0, .int .i64 0, .bool wa, .slice RA rn rc] 29)).alloc (.cells #[(.slice CA k cd : Value), .int .i64 fl, .int .i64 dir] 32)).alloc (.cells #[(.int .i64 p : Value), .int .i64 0, .int .i64 0, .int .i64 0, .bool wa, .slice RA rn rc] 29)) := ((((Below.refl w.heap.size w).alloc (Nat.le_refl _) _).alloc (by simp <;> omega) _).alloc (by simp <;> omega) _).alloc (by simp <;> omega) _
  have HRV := rdV_one A3 rfl (by
    intro j v hj
    rcases j with _ | _ | _ | _ | _ | _ | j <;> simp at hj <;> subst hj
    · exact ⟨p, rfl, hp⟩
    · exact ⟨0, rfl, by decide⟩
    · exact ⟨0, rfl, by decide⟩
    · exact ⟨0, rfl, by decide⟩
    · exact ⟨wa, rfl⟩
    · exact ⟨RA, rn, rc, rfl, hrc, hrm⟩)
  have HA0 := Lib.hid A0; have HA1 := Lib.hid A1; have HA2 := Lib.hid A2; have HE0 := Lib.hid E0; have HV0 := Lib.hid HRV
  have HZ0 := Lib.hid (hr.kept E0)
  have HK0 := Lib.hid (hv.kept E0)
  have HT := Lib.hid hT
  have HWC := Lib.hid WC; have HWS := Lib.hid WS; have HEO := Lib.hid EO
  clear A0 A1 A2 A3 E0 HRV hr hv hT WC WS EO
  go_enter Tryd.func3, Tryd.ntmps3
  go_wp2_with fail
  refine (HWC.out _ _ _ HZ0.out HV0.out).mono ?_
  rintro e w1 ⟨b1, rfl, hb, hW⟩
  have E1 := Lib.hid (HE0.out.trans (hb.mono HE0.out.size))
  have K1 := Lib.hid (HK0.out.kept hb)
  have B0 := HA0.out.next hb
  have B1 := HA1.out.next hb
  have B2 := HA2.out.next hb
  have f0 : w1.cell? ⟨w.heap.size, 0, none⟩ = some (.int .i64 (s 0)) := B0.cell 0
  have f1 : w1.cell? ⟨w.heap.size, 1, none⟩ = some (.int .i64 (s 1)) := B0.cell 1
  have f2 : w1.cell? ⟨w.heap.size, 2, none⟩ = some (.int .i64 (s 2)) := B0.cell 2
  have f3 : w1.cell? ⟨w.heap.size, 3, none⟩ = some (.int .i64 (s 3)) := B0.cell 3
  have f4 : w1.cell? ⟨w.heap.size, 4, none⟩ = some (.int .i64 (s 4)) := B0.cell 4
  have f5 : w1.cell? ⟨w.heap.size, 5, none⟩ = some (.int .i64 (s 5)) := B0.cell 5
  have f6 : w1.cell? ⟨w.heap.size, 6, none⟩ = some (.int .i64 (s 6)) := B0.cell 6
  have f7 : w1.cell? ⟨w.heap.size, 7, none⟩ = some (.int .i64 (s 7)) := B0.cell 7
  have f8 : w1.cell? ⟨w.heap.size, 8, none⟩ = some (.slice A n c) := B0.cell 8
  have f9 : w1.cell? ⟨w.heap.size, 9, none⟩ = some (.int .i64 (s 9)) := B0.cell 9
  have f10 : w1.cell? ⟨w.heap.size, 10, none⟩ = some (.int .i64 (s 10)) := B0.cell 10
  have f11 : w1.cell? ⟨w.heap.size, 11, none⟩ = some (.int .i64 (s 11)) := B0.cell 11
  have f12 : w1.cell? ⟨w.heap.size, 12, none⟩ = some (.int .i64 (s 12)) := B0.cell 12
  have c0 : w1.cell? ⟨w.heap.size + 1, 0, none⟩ = some (.int .i64 p) := B1.cell 0
  have c1 : w1.cell? ⟨w.heap.size + 1, 1, none⟩ = some (.int .i64 0) := B1.cell 1
  have c2 : w1.cell? ⟨w.heap.size + 1, 2, none⟩ = some (.int .i64 0) := B1.cell 2
  have c3 : w1.cell? ⟨w.heap.size + 1, 3, none⟩ = some (.int .i64 0) := B1.cell 3
  have c4 : w1.cell? ⟨w.heap.size + 1, 4, none⟩ = some (.bool wa) := B1.cell 4
  have c5 : w1.cell? ⟨w.heap.size + 1, 5, none⟩ = some (.slice RA rn rc) := B1.cell 5
  have k0 : w1.cell? ⟨w.heap.size + 2, 0, none⟩ = some (.slice CA k cd) := B2.cell 0
  have k1 : w1.cell? ⟨w.heap.size + 2, 1, none⟩ = some (.int .i64 fl) := B2.cell 1
  have k2 : w1.cell? ⟨w.heap.size + 2, 2, none⟩ = some (.int .i64 dir) := B2.cell 2
  have D0 := Lib.hid B0
  have D1 := Lib.hid B1
  have D2 := Lib.hid B2
  clear hb B0 B1 B2 HA0 HA1 HA2 HE0 HV0 HZ0 HK0
  cases b1
  case false =>
    clear hW
    go_wp2_with fail
    go_ret
    exact ⟨rfl, E1.out⟩
  have HW := Lib.hid (hW rfl)
  clear hW
  go_wp2_with fail
  refine (HWS.out _ K1.out).mono ?_
  rintro e w2 ⟨b2, rfl, hb, _⟩
  have E2 := Lib.hid (E1.out.trans (hb.mono E1.out.size))
  have K2 := Lib.hid (K1.out.kept hb)
  have nf0 := Lib.hid (bkeep (w := w1) hb f0); have nf1 := Lib.hid (bkeep (w := w1) hb f1); have nf2 := Lib.hid (bkeep (w := w1) hb f2); have nf3 := Lib.hid (bkeep (w := w1) hb f3); have nf4 := Lib.hid (bkeep (w := w1) hb f4); have nf5 := Lib.hid (bkeep (w := w1) hb f5); have nf6 := Lib.hid (bkeep (w := w1) hb f6); have nf7 := Lib.hid (bkeep (w := w1) hb f7); have nf8 := Lib.hid (bkeep (w := w1) hb f8); have nf9 := Lib.hid (bkeep (w := w1) hb f9); have nf10 := Lib.hid (bkeep (w := w1) hb f10); have nf11 := Lib.hid (bkeep (w := w1) hb f11); have nf12 := Lib.hid (bkeep (w := w1) hb f12); have nc0 := Lib.hid (bkeep (w := w1) hb c0); have nc1 := Lib.hid (bkeep (w := w1) hb c1); have nc2 := Lib.hid (bkeep (w := w1) hb c2); have nc3 := Lib.hid (bkeep (w := w1) hb c3); have nc4 := Lib.hid (bkeep (w := w1) hb c4); have nc5 := Lib.hid (bkeep (w := w1) hb c5); have nk0 := Lib.hid (bkeep (w := w1) hb k0); have nk1 := Lib.hid (bkeep (w := w1) hb k1); have nk2 := Lib.hid (bkeep (w := w1) hb k2); clear f0 f1 f2 f3 f4 f5 f6 f7 f8 f9 f10 f11 f12 c0 c1 c2 c3 c4 c5 k0 k1 k2; have f0 := nf0.out; have f1 := nf1.out; have f2 := nf2.out; have f3 := nf3.out; have f4 := nf4.out; have f5 := nf5.out; have f6 := nf6.out; have f7 := nf7.out; have f8 := nf8.out; have f9 := nf9.out; have f10 := nf10.out; have f11 := nf11.out; have f12 := nf12.out; have c0 := nc0.out; have c1 := nc1.out; have c2 := nc2.out; have c3 := nc3.out; have c4 := nc4.out; have c5 := nc5.out; have k0 := nk0.out; have k1 := nk1.out; have k2 := nk2.out; clear nf0 nf1 nf2 nf3 nf4 nf5 nf6 nf7 nf8 nf9 nf10 nf11 nf12 nc0 nc1 nc2 nc3 nc4 nc5 nk0 nk1 nk2
  have C0 := Lib.hid (D0.out.next hb)
  have C1 := Lib.hid (D1.out.next hb)
  have C2 := Lib.hid (D2.out.next hb)
  clear hb D0 D1 D2
  cases b2
  case false =>
    go_wp2_with fail
    go_ret
    exact ⟨rfl, E2.out⟩
  have G0 : fl < 0 ∨ (0 ≤ fl ∧ s 0 ≤ fl) ∨ (0 ≤ fl ∧ fl < s 0 ∧ k < 2) ∨ (0 ≤ fl ∧ fl < s 0 ∧ 2 ≤ k) := by omega
  rcases G0 with h | ⟨h, h1⟩ | ⟨h, h1, h2⟩ | ⟨h, h1, h2⟩
  · go_wp2_with fail
    go_ret
    exact ⟨rfl, E2.out⟩
  · go_wp2_with fail
    go_ret
    exact ⟨rfl, E2.out⟩
  · have h2' : (k : Int) < 2 := by omega
    go_wp2_with fail
    go_ret
    exact ⟨rfl, E2.out⟩
  obtain ⟨_, b0, b1, hI, hN⟩ := HW.out
  have hI0 : 0 ≤ p ∧ p ≤ (s 0 - 1) * s 1 := (hI 0 (by omega)).1
  have b4 : 1 ≤ s 4 ∧ s 4 ≤ 64 := of_decide_eq_true (hN 4 (by decide))
  have b5 : 1 ≤ s 5 ∧ s 5 ≤ 64 := of_decide_eq_true (hN 5 (by decide))
  have b6 : 1 ≤ s 6 ∧ s 6 ≤ 64 := of_decide_eq_true (hN 6 (by decide))
  have b7 : 1 ≤ s 7 ∧ s 7 ≤ 64 := of_decide_eq_true (hN 7 (by decide))
  have t1 : (s 0 - 1) * s 1 ≤ 127 * 16 := Int.mul_le_mul (by omega) (by omega) (by omega) (by omega)
  have p0 : 0 ≤ p := hI0.1
  have p1 : p ≤ 2032 := Int.le_trans hI0.2 t1
  have m0 : 0 ≤ fl * s 1 := Int.mul_nonneg h (by omega)
  have m1 : fl * s 1 ≤ 127 * 16 := Int.mul_le_mul (by omega) (by omega) (by omega) (by omega)
  have hmf := far_max p (fl * s 1)
  have q0 : 0 ≤ p % s 1 := Int.emod_nonneg _ (by omega)
  have q1 : p % s 1 < s 1 := Int.emod_lt_of_pos _ (by omega)
  have qe : p = p / s 1 * s 1 + p % s 1 := by rw [Int.mul_comm]; exact (Int.mul_ediv_add_emod p (s 1)).symm
  have E := fun F w hT => HEO.out F (fl * s 1) (p / s 1) (p % s 1) w hT b1.1 (by omega) p0 (by omega) q0 q1 qe rfl m0 (by omega) b4 b5 b6 b7
  clear hI hN hI0 t1 HEO HW HWC HWS
  obtain ⟨m, hm⟩ : ∃ m, fl * s 1 = m := ⟨_, rfl⟩
  have hw : IntKind.i64.wrap (fl * s 1) = m := by rw [hm]; exact IntWalk.i64_in _ (by omega)
  rw [hm] at m0 m1 hmf E
  obtain ⟨X, hX⟩ : ∃ X, farV p m = X := ⟨_, rfl⟩
  have fb := far_bd p0 (by omega) m0 (by omega)
  rw [hX] at hmf E fb
  obtain ⟨st, hst⟩ : ∃ st, s 4 + s 7 + s 5 + s 6 = st := ⟨_, rfl⟩
  have st0 : 0 ≤ st := by omega
  rw [hst] at E
  obtain ⟨v, hvv⟩ : ∃ v, nxF (p / s 1) (p % s 1) (-(cmpI m p)) = v := ⟨_, rfl⟩
  rw [hvv] at E
  clear hX hst hvv q0 q1 qe hm b4 b5 b6 b7
  obtain ⟨bb, off, rfl, hlt, hcl⟩ := rdK_row K2.out (by omega) (by omega)
  obtain ⟨x0, x1, ex0, ex1, eX⟩ := set_words K2.out (i := 0) (by omega)
  obtain ⟨y0, y1, ey0, ey1, eY⟩ := set_words K2.out (i := 1) (by omega)
  have g0 : w2.cell? ⟨bb, off, none⟩ = some (.int .u64 x0) := (hcl 0 0 (by omega) (by omega)).trans (by rw [ex0])
  have g1 : w2.cell? ⟨bb, off + 1, none⟩ = some (.int .u64 x1) := (hcl 0 1 (by omega) (by omega)).trans (by rw [ex1])
  have g2 : w2.cell? ⟨bb, off + 2, none⟩ = some (.int .u64 y0) := (hcl 1 0 (by omega) (by omega)).trans (by rw [ey0])
  have g3 : w2.cell? ⟨bb, off + 3, none⟩ = some (.int .u64 y1) := (hcl 1 1 (by omega) (by omega)).trans (by rw [ey1])
  have EN := fun w hT => E (fun _ => false) w hT
  rw [btP_none, show setV (fun _ => false) = .agg #[.int .u64 0, .int .u64 0] by unfold setV; rw [word_none.1, word_none.2]; rfl] at EN
  simp only [Int.ofNat_zero, Int.mul_zero, Int.add_zero, Int.natCast_zero, Int.cast_ofNat_Int] at EN
  have EF := fun w hT => E (setAt cz 0) w hT
  have EB := fun w hT => E (bothF (setAt cz 0) (setAt cz 1) 1) w hT
  have HBo := fun w => both_any (setAt cz 0) (setAt cz 1) 1 w
  have mono := btP_more v fl (setAt cz 0) (bothF (setAt cz 0) (setAt cz 1) 1) (fun j hj => by simp [bothF, hj]) 128
  rw [← eX] at EF
  rw [← eX, ← eY] at HBo
  obtain ⟨N1, hN1⟩ : ∃ N, btP v fl (itL (setAt cz 0) 128) = N := ⟨_, rfl⟩
  obtain ⟨N2, hN2⟩ : ∃ N, btP v fl (itL (bothF (setAt cz 0) (setAt cz 1) 1) 128) = N := ⟨_, rfl⟩
  rw [hN1] at EF mono
  rw [hN2] at EB mono
  unfold setV at EB HBo
  obtain ⟨u0, hu0⟩ : ∃ x, wordX (bothF (setAt cz 0) (setAt cz 1) 1) = x := ⟨_, rfl⟩
  obtain ⟨u1, hu1⟩ : ∃ x, wordY (bothF (setAt cz 0) (setAt cz 1) 1) = x := ⟨_, rfl⟩
  rw [hu0, hu1] at EB HBo
  have l1 : X ≤ X + st * (N1 : Int) := by have := Int.mul_nonneg st0 (Int.natCast_nonneg N1); omega
  have l2 : X + st * (N1 : Int) ≤ X + st * (N2 : Int) := by have := Int.mul_le_mul_of_nonneg_left (show (N1 : Int) ≤ N2 by omega) st0; omega
  obtain ⟨Y1, hY1⟩ : ∃ Y, X + st * (N1 : Int) = Y := ⟨_, rfl⟩
  obtain ⟨Y2, hY2⟩ : ∃ Y, X + st * (N2 : Int) = Y := ⟨_, rfl⟩
  rw [hY1] at EF l1 l2
  rw [hY2] at EB l2
  have HEN := Lib.hid EN; have HEF := Lib.hid EF; have HEB := Lib.hid EB; have HB := Lib.hid HBo
  have kk2 : (2 : Int) ≤ (k : Int) := by omega
  have kk0 : (0 : Int) < (k : Int) := by omega
  have kn0 : 0 < k := by omega
  have kk1 : (1 : Int) < (k : Int) := by omega
  have hs2 : w.heap.size + 1 + 1 < w2.heap.size := C2.out.lt
  have hs1 : w.heap.size + 1 < w2.heap.size := C1.out.lt
  have hs0 : w.heap.size < w2.heap.size := C0.out.lt
  have hgb : bb < w2.heap.size := lt_of_cell g0
  clear E EN EF EB HBo mono hN1 hN2 hu0 hu1 hY1 hY2 eX eY ex0 ex1 ey0 ey1 hcl hlt st0 K1 K2
  go_wp2_with fail
  go_region_held3 (fun W => W.cell? ⟨w.heap.size, 0, none⟩ = some (.int .i64 (s 0)) ∧ W.cell? ⟨w.heap.size, 1, none⟩ = some (.int .i64 (s 1)) ∧ W.cell? ⟨w.heap.size, 2, none⟩ = some (.int .i64 (s 2)) ∧ W.cell? ⟨w.heap.size, 3, none⟩ = some (.int .i64 (s 3)) ∧ W.cell? ⟨w.heap.size, 4, none⟩ = some (.int .i64 (s 4)) ∧ W.cell? ⟨w.heap.size, 5, none⟩ = some (.int .i64 (s 5)) ∧ W.cell? ⟨w.heap.size, 6, none⟩ = some (.int .i64 (s 6)) ∧ W.cell? ⟨w.heap.size, 7, none⟩ = some (.int .i64 (s 7)) ∧ W.cell? ⟨w.heap.size, 8, none⟩ = some (.slice A n c) ∧ W.cell? ⟨w.heap.size, 9, none⟩ = some (.int .i64 (s 9)) ∧ W.cell? ⟨w.heap.size, 10, none⟩ = some (.int .i64 (s 10)) ∧ W.cell? ⟨w.heap.size, 11, none⟩ = some (.int .i64 (s 11)) ∧ W.cell? ⟨w.heap.size, 12, none⟩ = some (.int .i64 (s 12)) ∧ W.cell? ⟨w.heap.size + 1, 0, none⟩ = some (.int .i64 p) ∧ W.cell? ⟨w.heap.size + 1, 1, none⟩ = some (.int .i64 0) ∧ W.cell? ⟨w.heap.size + 1, 2, none⟩ = some (.int .i64 0) ∧ W.cell? ⟨w.heap.size + 1, 3, none⟩ = some (.int .i64 0) ∧ W.cell? ⟨w.heap.size + 1, 4, none⟩ = some (.bool wa) ∧ W.cell? ⟨w.heap.size + 1, 5, none⟩ = some (.slice RA rn rc) ∧ W.cell? ⟨w.heap.size + 2, 0, none⟩ = some (.slice (some ⟨bb, off, none⟩) k cd) ∧ W.cell? ⟨w.heap.size + 2, 1, none⟩ = some (.int .i64 fl) ∧ W.cell? ⟨w.heap.size + 2, 2, none⟩ = some (.int .i64 dir) ∧ W.cell? ⟨bb, off, none⟩ = some (.int .u64 x0) ∧ W.cell? ⟨bb, off + 1, none⟩ = some (.int .u64 x1) ∧ W.cell? ⟨bb, off + 2, none⟩ = some (.int .u64 y0) ∧ W.cell? ⟨bb, off + 3, none⟩ = some (.int .u64 y1))
    (first | go_keep | exact ⟨far2E f0 (Nat.ne_of_lt hs0) (Nat.ne_of_lt hs0), far2E f1 (Nat.ne_of_lt hs0) (Nat.ne_of_lt hs0), far2E f2 (Nat.ne_of_lt hs0) (Nat.ne_of_lt hs0), far2E f3 (Nat.ne_of_lt hs0) (Nat.ne_of_lt hs0), far2E f4 (Nat.ne_of_lt hs0) (Nat.ne_of_lt hs0), far2E f5 (Nat.ne_of_lt hs0) (Nat.ne_of_lt hs0), far2E f6 (Nat.ne_of_lt hs0) (Nat.ne_of_lt hs0), far2E f7 (Nat.ne_of_lt hs0) (Nat.ne_of_lt hs0), far2E f8 (Nat.ne_of_lt hs0) (Nat.ne_of_lt hs0), far2E f9 (Nat.ne_of_lt hs0) (Nat.ne_of_lt hs0), far2E f10 (Nat.ne_of_lt hs0) (Nat.ne_of_lt hs0), far2E f11 (Nat.ne_of_lt hs0) (Nat.ne_of_lt hs0), far2E f12 (Nat.ne_of_lt hs0) (Nat.ne_of_lt hs0), far2E c0 (Nat.ne_of_lt hs1) (Nat.ne_of_lt hs1), far2E c1 (Nat.ne_of_lt hs1) (Nat.ne_of_lt hs1), far2E c2 (Nat.ne_of_lt hs1) (Nat.ne_of_lt hs1), far2E c3 (Nat.ne_of_lt hs1) (Nat.ne_of_lt hs1), far2E c4 (Nat.ne_of_lt hs1) (Nat.ne_of_lt hs1), far2E c5 (Nat.ne_of_lt hs1) (Nat.ne_of_lt hs1), far2E k0 (Nat.ne_of_lt hs2) (Nat.ne_of_lt hs2), far2E k1 (Nat.ne_of_lt hs2) (Nat.ne_of_lt hs2), far2E k2 (Nat.ne_of_lt hs2) (Nat.ne_of_lt hs2), far2E g0 (Nat.ne_of_lt hgb) (Nat.ne_of_lt hgb), far2E g1 (Nat.ne_of_lt hgb) (Nat.ne_of_lt hgb), far2E g2 (Nat.ne_of_lt hgb) (Nat.ne_of_lt hgb), far2E g3 (Nat.ne_of_lt hgb) (Nat.ne_of_lt hgb)⟩)
    (first
      | (go_at_call 6; refine (HB.out _).mono ?_; rintro e v1 ⟨rfl, hb⟩; have MB := blk_lastE hb; have Z0 : Blk v1 w.heap.size 25 #[(.int .i64 (s 0) : Value), .int .i64 (s 1), .int .i64 (s 2), .int .i64 (s 3), .int .i64 (s 4), .int .i64 (s 5), .int .i64 (s 6), .int .i64 (s 7), .slice A n c, .int .i64 (s 9), .int .i64 (s 10), .int .i64 (s 11), .int .i64 (s 12)] := Blk.next (w := (World.alloc w2 (.cells #[.int .u64 0, .int .u64 0] 38)).drew) (Blk.alloc (w := w2) C0.out _) hb; have Z1 : Blk v1 (w.heap.size + 1) 29 #[(.int .i64 p : Value), .int .i64 0, .int .i64 0, .int .i64 0, .bool wa, .slice RA rn rc] := Blk.next (w := (World.alloc w2 (.cells #[.int .u64 0, .int .u64 0] 38)).drew) (Blk.alloc (w := w2) C1.out _) hb; have Z2 : Blk v1 (w.heap.size + 2) 32 #[(.slice (some ⟨bb, off, none⟩) k cd : Value), .int .i64 fl, .int .i64 dir] := Blk.next (w := (World.alloc w2 (.cells #[.int .u64 0, .int .u64 0] 38)).drew) (Blk.alloc (w := w2) C2.out _) hb; have g0 : v1.cell? ⟨bb, off, none⟩ = some (.int .u64 x0) := ((hb).cell (p := ⟨bb, off, none⟩) (by simp <;> omega)).trans (by first | assumption | go_simp); have g1 : v1.cell? ⟨bb, off + 1, none⟩ = some (.int .u64 x1) := ((hb).cell (p := ⟨bb, off + 1, none⟩) (by simp <;> omega)).trans (by first | assumption | go_simp); have g2 : v1.cell? ⟨bb, off + 2, none⟩ = some (.int .u64 y0) := ((hb).cell (p := ⟨bb, off + 2, none⟩) (by simp <;> omega)).trans (by first | assumption | go_simp); have g3 : v1.cell? ⟨bb, off + 3, none⟩ = some (.int .u64 y1) := ((hb).cell (p := ⟨bb, off + 3, none⟩) (by simp <;> omega)).trans (by first | assumption | go_simp); have f0 : v1.cell? ⟨w.heap.size, 0, none⟩ = some (.int .i64 (s 0)) := Z0.cell 0; have f1 : v1.cell? ⟨w.heap.size, 1, none⟩ = some (.int .i64 (s 1)) := Z0.cell 1; have f2 : v1.cell? ⟨w.heap.size, 2, none⟩ = some (.int .i64 (s 2)) := Z0.cell 2; have f3 : v1.cell? ⟨w.heap.size, 3, none⟩ = some (.int .i64 (s 3)) := Z0.cell 3; have f4 : v1.cell? ⟨w.heap.size, 4, none⟩ = some (.int .i64 (s 4)) := Z0.cell 4; have f5 : v1.cell? ⟨w.heap.size, 5, none⟩ = some (.int .i64 (s 5)) := Z0.cell 5; have f6 : v1.cell? ⟨w.heap.size, 6, none⟩ = some (.int .i64 (s 6)) := Z0.cell 6; have f7 : v1.cell? ⟨w.heap.size, 7, none⟩ = some (.int .i64 (s 7)) := Z0.cell 7; have f8 : v1.cell? ⟨w.heap.size, 8, none⟩ = some (.slice A n c) := Z0.cell 8; have f9 : v1.cell? ⟨w.heap.size, 9, none⟩ = some (.int .i64 (s 9)) := Z0.cell 9; have f10 : v1.cell? ⟨w.heap.size, 10, none⟩ = some (.int .i64 (s 10)) := Z0.cell 10; have f11 : v1.cell? ⟨w.heap.size, 11, none⟩ = some (.int .i64 (s 11)) := Z0.cell 11; have f12 : v1.cell? ⟨w.heap.size, 12, none⟩ = some (.int .i64 (s 12)) := Z0.cell 12; have c0 : v1.cell? ⟨w.heap.size + 1, 0, none⟩ = some (.int .i64 p) := Z1.cell 0; have c1 : v1.cell? ⟨w.heap.size + 1, 1, none⟩ = some (.int .i64 0) := Z1.cell 1; have c2 : v1.cell? ⟨w.heap.size + 1, 2, none⟩ = some (.int .i64 0) := Z1.cell 2; have c3 : v1.cell? ⟨w.heap.size + 1, 3, none⟩ = some (.int .i64 0) := Z1.cell 3; have c4 : v1.cell? ⟨w.heap.size + 1, 4, none⟩ = some (.bool wa) := Z1.cell 4; have c5 : v1.cell? ⟨w.heap.size + 1, 5, none⟩ = some (.slice RA rn rc) := Z1.cell 5; have k0 : v1.cell? ⟨w.heap.size + 2, 0, none⟩ = some (.slice (some ⟨bb, off, none⟩) k cd) := Z2.cell 0; have k1 : v1.cell? ⟨w.heap.size + 2, 1, none⟩ = some (.int .i64 fl) := Z2.cell 1; have k2 : v1.cell? ⟨w.heap.size + 2, 2, none⟩ = some (.int .i64 dir) := Z2.cell 2; have m0 := MB.cell 0; have m1 := MB.cell 1; have n0 := MB.frozen 0; have n1 := MB.frozen 1; have HMB := Lib.hid MB; clear MB; have HZ0 := Lib.hid Z0; clear Z0; have HZ1 := Lib.hid Z1; clear Z1; have HZ2 := Lib.hid Z2; clear Z2)
      | (go_at_call 6; refine (HB.out _).mono ?_; rintro e v1 ⟨rfl, hb⟩; have Z0 : Blk v1 w.heap.size 25 #[(.int .i64 (s 0) : Value), .int .i64 (s 1), .int .i64 (s 2), .int .i64 (s 3), .int .i64 (s 4), .int .i64 (s 5), .int .i64 (s 6), .int .i64 (s 7), .slice A n c, .int .i64 (s 9), .int .i64 (s 10), .int .i64 (s 11), .int .i64 (s 12)] := Blk.next (w := w2.drew) C0.out hb; have Z1 : Blk v1 (w.heap.size + 1) 29 #[(.int .i64 p : Value), .int .i64 0, .int .i64 0, .int .i64 0, .bool wa, .slice RA rn rc] := Blk.next (w := w2.drew) C1.out hb; have Z2 : Blk v1 (w.heap.size + 2) 32 #[(.slice (some ⟨bb, off, none⟩) k cd : Value), .int .i64 fl, .int .i64 dir] := Blk.next (w := w2.drew) C2.out hb; have g0 : v1.cell? ⟨bb, off, none⟩ = some (.int .u64 x0) := ((hb).cell (p := ⟨bb, off, none⟩) (by simp <;> omega)).trans (by first | assumption | go_simp); have g1 : v1.cell? ⟨bb, off + 1, none⟩ = some (.int .u64 x1) := ((hb).cell (p := ⟨bb, off + 1, none⟩) (by simp <;> omega)).trans (by first | assumption | go_simp); have g2 : v1.cell? ⟨bb, off + 2, none⟩ = some (.int .u64 y0) := ((hb).cell (p := ⟨bb, off + 2, none⟩) (by simp <;> omega)).trans (by first | assumption | go_simp); have g3 : v1.cell? ⟨bb, off + 3, none⟩ = some (.int .u64 y1) := ((hb).cell (p := ⟨bb, off + 3, none⟩) (by simp <;> omega)).trans (by first | assumption | go_simp); have f0 : v1.cell? ⟨w.heap.size, 0, none⟩ = some (.int .i64 (s 0)) := Z0.cell 0; have f1 : v1.cell? ⟨w.heap.size, 1, none⟩ = some (.int .i64 (s 1)) := Z0.cell 1; have f2 : v1.cell? ⟨w.heap.size, 2, none⟩ = some (.int .i64 (s 2)) := Z0.cell 2; have f3 : v1.cell? ⟨w.heap.size, 3, none⟩ = some (.int .i64 (s 3)) := Z0.cell 3; have f4 : v1.cell? ⟨w.heap.size, 4, none⟩ = some (.int .i64 (s 4)) := Z0.cell 4; have f5 : v1.cell? ⟨w.heap.size, 5, none⟩ = some (.int .i64 (s 5)) := Z0.cell 5; have f6 : v1.cell? ⟨w.heap.size, 6, none⟩ = some (.int .i64 (s 6)) := Z0.cell 6; have f7 : v1.cell? ⟨w.heap.size, 7, none⟩ = some (.int .i64 (s 7)) := Z0.cell 7; have f8 : v1.cell? ⟨w.heap.size, 8, none⟩ = some (.slice A n c) := Z0.cell 8; have f9 : v1.cell? ⟨w.heap.size, 9, none⟩ = some (.int .i64 (s 9)) := Z0.cell 9; have f10 : v1.cell? ⟨w.heap.size, 10, none⟩ = some (.int .i64 (s 10)) := Z0.cell 10; have f11 : v1.cell? ⟨w.heap.size, 11, none⟩ = some (.int .i64 (s 11)) := Z0.cell 11; have f12 : v1.cell? ⟨w.heap.size, 12, none⟩ = some (.int .i64 (s 12)) := Z0.cell 12; have c0 : v1.cell? ⟨w.heap.size + 1, 0, none⟩ = some (.int .i64 p) := Z1.cell 0; have c1 : v1.cell? ⟨w.heap.size + 1, 1, none⟩ = some (.int .i64 0) := Z1.cell 1; have c2 : v1.cell? ⟨w.heap.size + 1, 2, none⟩ = some (.int .i64 0) := Z1.cell 2; have c3 : v1.cell? ⟨w.heap.size + 1, 3, none⟩ = some (.int .i64 0) := Z1.cell 3; have c4 : v1.cell? ⟨w.heap.size + 1, 4, none⟩ = some (.bool wa) := Z1.cell 4; have c5 : v1.cell? ⟨w.heap.size + 1, 5, none⟩ = some (.slice RA rn rc) := Z1.cell 5; have k0 : v1.cell? ⟨w.heap.size + 2, 0, none⟩ = some (.slice (some ⟨bb, off, none⟩) k cd) := Z2.cell 0; have k1 : v1.cell? ⟨w.heap.size + 2, 1, none⟩ = some (.int .i64 fl) := Z2.cell 1; have k2 : v1.cell? ⟨w.heap.size + 2, 2, none⟩ = some (.int .i64 dir) := Z2.cell 2; have HZ0 := Lib.hid Z0; clear Z0; have HZ1 := Lib.hid Z1; clear Z1; have HZ2 := Lib.hid Z2; clear Z2))
  · skip
    have EB0 := Lib.hid (E2.out.drew.trans (hb.mono E2.out.drew.size))
    have EV := Lib.hid (EB0.out.alloc EB0.out.size (Obj.cells #[(.int .u64 u0 : Value), .int .u64 u1] 38))
    have P0 := Lib.hid (HZ0.out.alloc (Obj.cells #[(.int .u64 u0 : Value), .int .u64 u1] 38))
    have P1 := Lib.hid (HZ1.out.alloc (Obj.cells #[(.int .u64 u0 : Value), .int .u64 u1] 38))
    have P2 := Lib.hid (HZ2.out.alloc (Obj.cells #[(.int .u64 u0 : Value), .int .u64 u1] 38))
    have PX := Lib.hid (Blk.new v1 #[(.int .u64 u0 : Value), .int .u64 u1] 38)
    have g0h := Lib.hid ((World.cell?_alloc_lt v1 (Obj.cells #[(.int .u64 u0 : Value), .int .u64 u1] 38) _ (lt_of_cell g0)).trans g0)
    have g1h := Lib.hid ((World.cell?_alloc_lt v1 (Obj.cells #[(.int .u64 u0 : Value), .int .u64 u1] 38) _ (lt_of_cell g1)).trans g1)
    have g2h := Lib.hid ((World.cell?_alloc_lt v1 (Obj.cells #[(.int .u64 u0 : Value), .int .u64 u1] 38) _ (lt_of_cell g2)).trans g2)
    have g3h := Lib.hid ((World.cell?_alloc_lt v1 (Obj.cells #[(.int .u64 u0 : Value), .int .u64 u1] 38) _ (lt_of_cell g3)).trans g3)
    clear f0 f1 f2 f3 f4 f5 f6 f7 f8 f9 f10 f11 f12 c0 c1 c2 c3 c4 c5 k0 k1 k2 g0 g1 g2 g3
    clear EB0
    obtain ⟨gx, hgx⟩ : ∃ g, v1.heap.size = g := ⟨_, rfl⟩
    obtain ⟨V, hV⟩ : ∃ V, v1.alloc (Obj.cells #[(.int .u64 u0 : Value), .int .u64 u1] 38) = V := ⟨_, rfl⟩
    rw [hgx, hV]
    rw [hgx] at PX
    rw [hV] at PX P0 P1 P2 EV g0h g1h g2h g3h
    clear hgx hV
    clear C0 C1 C2 HB E1 HZ0 HZ1 HZ2 hb
    have bX : (X == X) = true := by simp
    have f0 : V.cell? ⟨w.heap.size, 0, none⟩ = some (.int .i64 (s 0)) := P0.out.cell 0; have f1 : V.cell? ⟨w.heap.size, 1, none⟩ = some (.int .i64 (s 1)) := P0.out.cell 1; have f2 : V.cell? ⟨w.heap.size, 2, none⟩ = some (.int .i64 (s 2)) := P0.out.cell 2; have f3 : V.cell? ⟨w.heap.size, 3, none⟩ = some (.int .i64 (s 3)) := P0.out.cell 3; have f4 : V.cell? ⟨w.heap.size, 4, none⟩ = some (.int .i64 (s 4)) := P0.out.cell 4; have f5 : V.cell? ⟨w.heap.size, 5, none⟩ = some (.int .i64 (s 5)) := P0.out.cell 5; have f6 : V.cell? ⟨w.heap.size, 6, none⟩ = some (.int .i64 (s 6)) := P0.out.cell 6; have f7 : V.cell? ⟨w.heap.size, 7, none⟩ = some (.int .i64 (s 7)) := P0.out.cell 7; have f8 : V.cell? ⟨w.heap.size, 8, none⟩ = some (.slice A n c) := P0.out.cell 8; have f9 : V.cell? ⟨w.heap.size, 9, none⟩ = some (.int .i64 (s 9)) := P0.out.cell 9; have f10 : V.cell? ⟨w.heap.size, 10, none⟩ = some (.int .i64 (s 10)) := P0.out.cell 10; have f11 : V.cell? ⟨w.heap.size, 11, none⟩ = some (.int .i64 (s 11)) := P0.out.cell 11; have f12 : V.cell? ⟨w.heap.size, 12, none⟩ = some (.int .i64 (s 12)) := P0.out.cell 12; have c0 : V.cell? ⟨w.heap.size + 1, 0, none⟩ = some (.int .i64 p) := P1.out.cell 0; have c1 : V.cell? ⟨w.heap.size + 1, 1, none⟩ = some (.int .i64 0) := P1.out.cell 1; have c2 : V.cell? ⟨w.heap.size + 1, 2, none⟩ = some (.int .i64 0) := P1.out.cell 2; have c3 : V.cell? ⟨w.heap.size + 1, 3, none⟩ = some (.int .i64 0) := P1.out.cell 3; have c4 : V.cell? ⟨w.heap.size + 1, 4, none⟩ = some (.bool wa) := P1.out.cell 4; have c5 : V.cell? ⟨w.heap.size + 1, 5, none⟩ = some (.slice RA rn rc) := P1.out.cell 5; have k0 : V.cell? ⟨w.heap.size + 2, 0, none⟩ = some (.slice (some ⟨bb, off, none⟩) k cd) := P2.out.cell 0; have k1 : V.cell? ⟨w.heap.size + 2, 1, none⟩ = some (.int .i64 fl) := P2.out.cell 1; have k2 : V.cell? ⟨w.heap.size + 2, 2, none⟩ = some (.int .i64 dir) := P2.out.cell 2
    have q0 : V.cell? ⟨gx, 0, none⟩ = some (.int .u64 u0) := PX.out.cell 0
    have q1 : V.cell? ⟨gx, 1, none⟩ = some (.int .u64 u1) := PX.out.cell 1
    have g0 := g0h.out
    have g1 := g1h.out
    have g2 := g2h.out
    have g3 := g3h.out
    go_wp2_with fail
    refine (HEN.out _ (HT.out.kept EV.out)).mono ?_
    rintro e w4 ⟨rfl, hb4⟩
    clear f0 f1 f2 f3 f4 f5 f6 f7 f8 f9 f10 f11 f12 c0 c1 c2 c3 c4 c5 k0 k1 k2 q0 q1 g0 g1 g2 g3
    have P0 := Lib.hid (Blk.next (w := V) P0.out hb4)
    have P1 := Lib.hid (Blk.next (w := V) P1.out hb4)
    have P2 := Lib.hid (Blk.next (w := V) P2.out hb4)
    have PX := Lib.hid (Blk.next (w := V) PX.out hb4)
    have g0h := Lib.hid (show w4.cell? ⟨bb, off, none⟩ = some (.int .u64 x0) from (hb4.cell (p := ⟨bb, off, none⟩) (lt_of_cell g0h.out)).trans g0h.out)
    have g1h := Lib.hid (show w4.cell? ⟨bb, off + 1, none⟩ = some (.int .u64 x1) from (hb4.cell (p := ⟨bb, off + 1, none⟩) (lt_of_cell g1h.out)).trans g1h.out)
    have g2h := Lib.hid (show w4.cell? ⟨bb, off + 2, none⟩ = some (.int .u64 y0) from (hb4.cell (p := ⟨bb, off + 2, none⟩) (lt_of_cell g2h.out)).trans g2h.out)
    have g3h := Lib.hid (show w4.cell? ⟨bb, off + 3, none⟩ = some (.int .u64 y1) from (hb4.cell (p := ⟨bb, off + 3, none⟩) (lt_of_cell g3h.out)).trans g3h.out)
    have E4 := Lib.hid (EV.out.trans (hb4.mono EV.out.size))
    clear hb4 EV
    have f0 : w4.cell? ⟨w.heap.size, 0, none⟩ = some (.int .i64 (s 0)) := P0.out.cell 0; have f1 : w4.cell? ⟨w.heap.size, 1, none⟩ = some (.int .i64 (s 1)) := P0.out.cell 1; have f2 : w4.cell? ⟨w.heap.size, 2, none⟩ = some (.int .i64 (s 2)) := P0.out.cell 2; have f3 : w4.cell? ⟨w.heap.size, 3, none⟩ = some (.int .i64 (s 3)) := P0.out.cell 3; have f4 : w4.cell? ⟨w.heap.size, 4, none⟩ = some (.int .i64 (s 4)) := P0.out.cell 4; have f5 : w4.cell? ⟨w.heap.size, 5, none⟩ = some (.int .i64 (s 5)) := P0.out.cell 5; have f6 : w4.cell? ⟨w.heap.size, 6, none⟩ = some (.int .i64 (s 6)) := P0.out.cell 6; have f7 : w4.cell? ⟨w.heap.size, 7, none⟩ = some (.int .i64 (s 7)) := P0.out.cell 7; have f8 : w4.cell? ⟨w.heap.size, 8, none⟩ = some (.slice A n c) := P0.out.cell 8; have f9 : w4.cell? ⟨w.heap.size, 9, none⟩ = some (.int .i64 (s 9)) := P0.out.cell 9; have f10 : w4.cell? ⟨w.heap.size, 10, none⟩ = some (.int .i64 (s 10)) := P0.out.cell 10; have f11 : w4.cell? ⟨w.heap.size, 11, none⟩ = some (.int .i64 (s 11)) := P0.out.cell 11; have f12 : w4.cell? ⟨w.heap.size, 12, none⟩ = some (.int .i64 (s 12)) := P0.out.cell 12; have c0 : w4.cell? ⟨w.heap.size + 1, 0, none⟩ = some (.int .i64 p) := P1.out.cell 0; have c1 : w4.cell? ⟨w.heap.size + 1, 1, none⟩ = some (.int .i64 0) := P1.out.cell 1; have c2 : w4.cell? ⟨w.heap.size + 1, 2, none⟩ = some (.int .i64 0) := P1.out.cell 2; have c3 : w4.cell? ⟨w.heap.size + 1, 3, none⟩ = some (.int .i64 0) := P1.out.cell 3; have c4 : w4.cell? ⟨w.heap.size + 1, 4, none⟩ = some (.bool wa) := P1.out.cell 4; have c5 : w4.cell? ⟨w.heap.size + 1, 5, none⟩ = some (.slice RA rn rc) := P1.out.cell 5; have k0 : w4.cell? ⟨w.heap.size + 2, 0, none⟩ = some (.slice (some ⟨bb, off, none⟩) k cd) := P2.out.cell 0; have k1 : w4.cell? ⟨w.heap.size + 2, 1, none⟩ = some (.int .i64 fl) := P2.out.cell 1; have k2 : w4.cell? ⟨w.heap.size + 2, 2, none⟩ = some (.int .i64 dir) := P2.out.cell 2
    have q0 : w4.cell? ⟨gx, 0, none⟩ = some (.int .u64 u0) := PX.out.cell 0
    have q1 : w4.cell? ⟨gx, 1, none⟩ = some (.int .u64 u1) := PX.out.cell 1
    have g0 := g0h.out
    have g1 := g1h.out
    have g2 := g2h.out
    have g3 := g3h.out
    have HT4 := Lib.hid (HT.out.kept E4.out.drew)
    go_wp2_with fail
    go_region_held3 (fun W => W.cell? ⟨w.heap.size, 0, none⟩ = some (.int .i64 (s 0)) ∧ W.cell? ⟨w.heap.size, 1, none⟩ = some (.int .i64 (s 1)) ∧ W.cell? ⟨w.heap.size, 2, none⟩ = some (.int .i64 (s 2)) ∧ W.cell? ⟨w.heap.size, 3, none⟩ = some (.int .i64 (s 3)) ∧ W.cell? ⟨w.heap.size, 4, none⟩ = some (.int .i64 (s 4)) ∧ W.cell? ⟨w.heap.size, 5, none⟩ = some (.int .i64 (s 5)) ∧ W.cell? ⟨w.heap.size, 6, none⟩ = some (.int .i64 (s 6)) ∧ W.cell? ⟨w.heap.size, 7, none⟩ = some (.int .i64 (s 7)) ∧ W.cell? ⟨w.heap.size, 8, none⟩ = some (.slice A n c) ∧ W.cell? ⟨w.heap.size, 9, none⟩ = some (.int .i64 (s 9)) ∧ W.cell? ⟨w.heap.size, 10, none⟩ = some (.int .i64 (s 10)) ∧ W.cell? ⟨w.heap.size, 11, none⟩ = some (.int .i64 (s 11)) ∧ W.cell? ⟨w.heap.size, 12, none⟩ = some (.int .i64 (s 12)) ∧ W.cell? ⟨w.heap.size + 1, 0, none⟩ = some (.int .i64 p) ∧ W.cell? ⟨w.heap.size + 1, 1, none⟩ = some (.int .i64 0) ∧ W.cell? ⟨w.heap.size + 1, 2, none⟩ = some (.int .i64 0) ∧ W.cell? ⟨w.heap.size + 1, 3, none⟩ = some (.int .i64 0) ∧ W.cell? ⟨w.heap.size + 1, 4, none⟩ = some (.bool wa) ∧ W.cell? ⟨w.heap.size + 1, 5, none⟩ = some (.slice RA rn rc) ∧ W.cell? ⟨w.heap.size + 2, 0, none⟩ = some (.slice (some ⟨bb, off, none⟩) k cd) ∧ W.cell? ⟨w.heap.size + 2, 1, none⟩ = some (.int .i64 fl) ∧ W.cell? ⟨w.heap.size + 2, 2, none⟩ = some (.int .i64 dir) ∧ W.cell? ⟨bb, off, none⟩ = some (.int .u64 x0) ∧ W.cell? ⟨bb, off + 1, none⟩ = some (.int .u64 x1) ∧ W.cell? ⟨bb, off + 2, none⟩ = some (.int .u64 y0) ∧ W.cell? ⟨bb, off + 3, none⟩ = some (.int .u64 y1))
      (go_keep)
      (first
        | (go_at_call 7; refine (HEF.out _ HT4.out).mono ?_; rintro e w5 ⟨rfl, hb5⟩; have Z0 : Blk w5 w.heap.size 25 #[(.int .i64 (s 0) : Value), .int .i64 (s 1), .int .i64 (s 2), .int .i64 (s 3), .int .i64 (s 4), .int .i64 (s 5), .int .i64 (s 6), .int .i64 (s 7), .slice A n c, .int .i64 (s 9), .int .i64 (s 10), .int .i64 (s 11), .int .i64 (s 12)] := Blk.next (w := w4.drew) P0.out hb5; have Z1 : Blk w5 (w.heap.size + 1) 29 #[(.int .i64 p : Value), .int .i64 0, .int .i64 0, .int .i64 0, .bool wa, .slice RA rn rc] := Blk.next (w := w4.drew) P1.out hb5; have Z2 : Blk w5 (w.heap.size + 2) 32 #[(.slice (some ⟨bb, off, none⟩) k cd : Value), .int .i64 fl, .int .i64 dir] := Blk.next (w := w4.drew) P2.out hb5; have g0 : w5.cell? ⟨bb, off, none⟩ = some (.int .u64 x0) := (hb5.cell (p := ⟨bb, off, none⟩) (lt_of_cell g0h.out)).trans g0h.out; have g1 : w5.cell? ⟨bb, off + 1, none⟩ = some (.int .u64 x1) := (hb5.cell (p := ⟨bb, off + 1, none⟩) (lt_of_cell g1h.out)).trans g1h.out; have g2 : w5.cell? ⟨bb, off + 2, none⟩ = some (.int .u64 y0) := (hb5.cell (p := ⟨bb, off + 2, none⟩) (lt_of_cell g2h.out)).trans g2h.out; have g3 : w5.cell? ⟨bb, off + 3, none⟩ = some (.int .u64 y1) := (hb5.cell (p := ⟨bb, off + 3, none⟩) (lt_of_cell g3h.out)).trans g3h.out; have f0 : w5.cell? ⟨w.heap.size, 0, none⟩ = some (.int .i64 (s 0)) := Z0.cell 0; have f1 : w5.cell? ⟨w.heap.size, 1, none⟩ = some (.int .i64 (s 1)) := Z0.cell 1; have f2 : w5.cell? ⟨w.heap.size, 2, none⟩ = some (.int .i64 (s 2)) := Z0.cell 2; have f3 : w5.cell? ⟨w.heap.size, 3, none⟩ = some (.int .i64 (s 3)) := Z0.cell 3; have f4 : w5.cell? ⟨w.heap.size, 4, none⟩ = some (.int .i64 (s 4)) := Z0.cell 4; have f5 : w5.cell? ⟨w.heap.size, 5, none⟩ = some (.int .i64 (s 5)) := Z0.cell 5; have f6 : w5.cell? ⟨w.heap.size, 6, none⟩ = some (.int .i64 (s 6)) := Z0.cell 6; have f7 : w5.cell? ⟨w.heap.size, 7, none⟩ = some (.int .i64 (s 7)) := Z0.cell 7; have f8 : w5.cell? ⟨w.heap.size, 8, none⟩ = some (.slice A n c) := Z0.cell 8; have f9 : w5.cell? ⟨w.heap.size, 9, none⟩ = some (.int .i64 (s 9)) := Z0.cell 9; have f10 : w5.cell? ⟨w.heap.size, 10, none⟩ = some (.int .i64 (s 10)) := Z0.cell 10; have f11 : w5.cell? ⟨w.heap.size, 11, none⟩ = some (.int .i64 (s 11)) := Z0.cell 11; have f12 : w5.cell? ⟨w.heap.size, 12, none⟩ = some (.int .i64 (s 12)) := Z0.cell 12; have c0 : w5.cell? ⟨w.heap.size + 1, 0, none⟩ = some (.int .i64 p) := Z1.cell 0; have c1 : w5.cell? ⟨w.heap.size + 1, 1, none⟩ = some (.int .i64 0) := Z1.cell 1; have c2 : w5.cell? ⟨w.heap.size + 1, 2, none⟩ = some (.int .i64 0) := Z1.cell 2; have c3 : w5.cell? ⟨w.heap.size + 1, 3, none⟩ = some (.int .i64 0) := Z1.cell 3; have c4 : w5.cell? ⟨w.heap.size + 1, 4, none⟩ = some (.bool wa) := Z1.cell 4; have c5 : w5.cell? ⟨w.heap.size + 1, 5, none⟩ = some (.slice RA rn rc) := Z1.cell 5; have k0 : w5.cell? ⟨w.heap.size + 2, 0, none⟩ = some (.slice (some ⟨bb, off, none⟩) k cd) := Z2.cell 0; have k1 : w5.cell? ⟨w.heap.size + 2, 1, none⟩ = some (.int .i64 fl) := Z2.cell 1; have k2 : w5.cell? ⟨w.heap.size + 2, 2, none⟩ = some (.int .i64 dir) := Z2.cell 2; have HZ0 := Lib.hid Z0; clear Z0; have HZ1 := Lib.hid Z1; clear Z1; have HZ2 := Lib.hid Z2; clear Z2))
    have PX := Lib.hid (Blk.next (w := w4.drew) PX.out hb5)
    have q0 : w5.cell? ⟨gx, 0, none⟩ = some (.int .u64 u0) := PX.out.cell 0
    have q1 : w5.cell? ⟨gx, 1, none⟩ = some (.int .u64 u1) := PX.out.cell 1
    have E5 := Lib.hid (E4.out.drew.trans (hb5.mono E4.out.drew.size))
    clear hb5 HEN HEF HT4
    go_wp2_with fail
    refine (HEB.out _ (HT.out.kept E5.out)).mono ?_
    rintro e w6 ⟨rfl, hb6⟩
    have E6 := Lib.hid (E5.out.trans (hb6.mono E5.out.size))
    clear hb6
    go_wp2_with fail
    refine (ealive _ (HT.out.kept E6.out)).mono ?_
    rintro e w7 ⟨rfl, hb7⟩
    go_wp2_with fail
    go_ret
    exact ⟨rfl, E6.out.trans (hb7.mono E6.out.size)⟩
  · skip
    have EB0 := Lib.hid (show Below w.heap.size w (World.alloc w2 (.cells #[.int .u64 0, .int .u64 0] 38)).drew from (E2.out.alloc E2.out.size _).drew)
    have EB1 := Lib.hid (EB0.out.trans (hb.mono EB0.out.size))
    have EV := Lib.hid (show Below w.heap.size w ((v1.setCell ⟨w2.heap.size, 0, none⟩ (.int .u64 u0)).setCell ⟨w2.heap.size, 1, none⟩ (.int .u64 u1)) from (EB1.out.setCell (by show w.heap.size ≤ w2.heap.size; omega) _).setCell (by show w.heap.size ≤ w2.heap.size; omega) _)
    have P0 := Lib.hid ((HZ0.out.far (p := ⟨w2.heap.size, 0, none⟩) (Nat.ne_of_lt hs0) (.int .u64 u0)).far (p := ⟨w2.heap.size, 1, none⟩) (Nat.ne_of_lt hs0) (.int .u64 u1))
    have P1 := Lib.hid ((HZ1.out.far (p := ⟨w2.heap.size, 0, none⟩) (Nat.ne_of_lt hs1) (.int .u64 u0)).far (p := ⟨w2.heap.size, 1, none⟩) (Nat.ne_of_lt hs1) (.int .u64 u1))
    have P2 := Lib.hid ((HZ2.out.far (p := ⟨w2.heap.size, 0, none⟩) (Nat.ne_of_lt hs2) (.int .u64 u0)).far (p := ⟨w2.heap.size, 1, none⟩) (Nat.ne_of_lt hs2) (.int .u64 u1))
    have PX := Lib.hid (HMB.out.put2 (.int .u64 u0) (.int .u64 u1))
    have g0h := Lib.hid (show ((v1.setCell ⟨w2.heap.size, 0, none⟩ (.int .u64 u0)).setCell ⟨w2.heap.size, 1, none⟩ (.int .u64 u1)).cell? ⟨bb, off, none⟩ = some (.int .u64 x0) from far2E g0 (Nat.ne_of_lt hgb) (Nat.ne_of_lt hgb))
    have g1h := Lib.hid (show ((v1.setCell ⟨w2.heap.size, 0, none⟩ (.int .u64 u0)).setCell ⟨w2.heap.size, 1, none⟩ (.int .u64 u1)).cell? ⟨bb, off + 1, none⟩ = some (.int .u64 x1) from far2E g1 (Nat.ne_of_lt hgb) (Nat.ne_of_lt hgb))
    have g2h := Lib.hid (show ((v1.setCell ⟨w2.heap.size, 0, none⟩ (.int .u64 u0)).setCell ⟨w2.heap.size, 1, none⟩ (.int .u64 u1)).cell? ⟨bb, off + 2, none⟩ = some (.int .u64 y0) from far2E g2 (Nat.ne_of_lt hgb) (Nat.ne_of_lt hgb))
    have g3h := Lib.hid (show ((v1.setCell ⟨w2.heap.size, 0, none⟩ (.int .u64 u0)).setCell ⟨w2.heap.size, 1, none⟩ (.int .u64 u1)).cell? ⟨bb, off + 3, none⟩ = some (.int .u64 y1) from far2E g3 (Nat.ne_of_lt hgb) (Nat.ne_of_lt hgb))
    clear f0 f1 f2 f3 f4 f5 f6 f7 f8 f9 f10 f11 f12 c0 c1 c2 c3 c4 c5 k0 k1 k2 g0 g1 g2 g3 m0 m1 n0 n1
    clear EB0 EB1 HMB
    obtain ⟨gx, hgx⟩ : ∃ g, w2.heap.size = g := ⟨_, rfl⟩
    rw [hgx] at PX P0 P1 P2 EV g0h g1h g2h g3h ⊢
    obtain ⟨V, hV⟩ : ∃ V, ((v1.setCell ⟨gx, 0, none⟩ (.int .u64 u0)).setCell ⟨gx, 1, none⟩ (.int .u64 u1)) = V := ⟨_, rfl⟩
    rw [hV] at PX P0 P1 P2 EV g0h g1h g2h g3h ⊢
    clear hgx hV
    clear C0 C1 C2 HB E1 HZ0 HZ1 HZ2 hb
    have bX : (X == X) = true := by simp
    have f0 : V.cell? ⟨w.heap.size, 0, none⟩ = some (.int .i64 (s 0)) := P0.out.cell 0; have f1 : V.cell? ⟨w.heap.size, 1, none⟩ = some (.int .i64 (s 1)) := P0.out.cell 1; have f2 : V.cell? ⟨w.heap.size, 2, none⟩ = some (.int .i64 (s 2)) := P0.out.cell 2; have f3 : V.cell? ⟨w.heap.size, 3, none⟩ = some (.int .i64 (s 3)) := P0.out.cell 3; have f4 : V.cell? ⟨w.heap.size, 4, none⟩ = some (.int .i64 (s 4)) := P0.out.cell 4; have f5 : V.cell? ⟨w.heap.size, 5, none⟩ = some (.int .i64 (s 5)) := P0.out.cell 5; have f6 : V.cell? ⟨w.heap.size, 6, none⟩ = some (.int .i64 (s 6)) := P0.out.cell 6; have f7 : V.cell? ⟨w.heap.size, 7, none⟩ = some (.int .i64 (s 7)) := P0.out.cell 7; have f8 : V.cell? ⟨w.heap.size, 8, none⟩ = some (.slice A n c) := P0.out.cell 8; have f9 : V.cell? ⟨w.heap.size, 9, none⟩ = some (.int .i64 (s 9)) := P0.out.cell 9; have f10 : V.cell? ⟨w.heap.size, 10, none⟩ = some (.int .i64 (s 10)) := P0.out.cell 10; have f11 : V.cell? ⟨w.heap.size, 11, none⟩ = some (.int .i64 (s 11)) := P0.out.cell 11; have f12 : V.cell? ⟨w.heap.size, 12, none⟩ = some (.int .i64 (s 12)) := P0.out.cell 12; have c0 : V.cell? ⟨w.heap.size + 1, 0, none⟩ = some (.int .i64 p) := P1.out.cell 0; have c1 : V.cell? ⟨w.heap.size + 1, 1, none⟩ = some (.int .i64 0) := P1.out.cell 1; have c2 : V.cell? ⟨w.heap.size + 1, 2, none⟩ = some (.int .i64 0) := P1.out.cell 2; have c3 : V.cell? ⟨w.heap.size + 1, 3, none⟩ = some (.int .i64 0) := P1.out.cell 3; have c4 : V.cell? ⟨w.heap.size + 1, 4, none⟩ = some (.bool wa) := P1.out.cell 4; have c5 : V.cell? ⟨w.heap.size + 1, 5, none⟩ = some (.slice RA rn rc) := P1.out.cell 5; have k0 : V.cell? ⟨w.heap.size + 2, 0, none⟩ = some (.slice (some ⟨bb, off, none⟩) k cd) := P2.out.cell 0; have k1 : V.cell? ⟨w.heap.size + 2, 1, none⟩ = some (.int .i64 fl) := P2.out.cell 1; have k2 : V.cell? ⟨w.heap.size + 2, 2, none⟩ = some (.int .i64 dir) := P2.out.cell 2
    have q0 : V.cell? ⟨gx, 0, none⟩ = some (.int .u64 u0) := PX.out.cell 0
    have q1 : V.cell? ⟨gx, 1, none⟩ = some (.int .u64 u1) := PX.out.cell 1
    have g0 := g0h.out
    have g1 := g1h.out
    have g2 := g2h.out
    have g3 := g3h.out
    go_wp2_with fail
    refine (HEN.out _ (HT.out.kept EV.out)).mono ?_
    rintro e w4 ⟨rfl, hb4⟩
    clear f0 f1 f2 f3 f4 f5 f6 f7 f8 f9 f10 f11 f12 c0 c1 c2 c3 c4 c5 k0 k1 k2 q0 q1 g0 g1 g2 g3
    have P0 := Lib.hid (Blk.next (w := V) P0.out hb4)
    have P1 := Lib.hid (Blk.next (w := V) P1.out hb4)
    have P2 := Lib.hid (Blk.next (w := V) P2.out hb4)
    have PX := Lib.hid (Blk.next (w := V) PX.out hb4)
    have g0h := Lib.hid (show w4.cell? ⟨bb, off, none⟩ = some (.int .u64 x0) from (hb4.cell (p := ⟨bb, off, none⟩) (lt_of_cell g0h.out)).trans g0h.out)
    have g1h := Lib.hid (show w4.cell? ⟨bb, off + 1, none⟩ = some (.int .u64 x1) from (hb4.cell (p := ⟨bb, off + 1, none⟩) (lt_of_cell g1h.out)).trans g1h.out)
    have g2h := Lib.hid (show w4.cell? ⟨bb, off + 2, none⟩ = some (.int .u64 y0) from (hb4.cell (p := ⟨bb, off + 2, none⟩) (lt_of_cell g2h.out)).trans g2h.out)
    have g3h := Lib.hid (show w4.cell? ⟨bb, off + 3, none⟩ = some (.int .u64 y1) from (hb4.cell (p := ⟨bb, off + 3, none⟩) (lt_of_cell g3h.out)).trans g3h.out)
    have E4 := Lib.hid (EV.out.trans (hb4.mono EV.out.size))
    clear hb4 EV
    have f0 : w4.cell? ⟨w.heap.size, 0, none⟩ = some (.int .i64 (s 0)) := P0.out.cell 0; have f1 : w4.cell? ⟨w.heap.size, 1, none⟩ = some (.int .i64 (s 1)) := P0.out.cell 1; have f2 : w4.cell? ⟨w.heap.size, 2, none⟩ = some (.int .i64 (s 2)) := P0.out.cell 2; have f3 : w4.cell? ⟨w.heap.size, 3, none⟩ = some (.int .i64 (s 3)) := P0.out.cell 3; have f4 : w4.cell? ⟨w.heap.size, 4, none⟩ = some (.int .i64 (s 4)) := P0.out.cell 4; have f5 : w4.cell? ⟨w.heap.size, 5, none⟩ = some (.int .i64 (s 5)) := P0.out.cell 5; have f6 : w4.cell? ⟨w.heap.size, 6, none⟩ = some (.int .i64 (s 6)) := P0.out.cell 6; have f7 : w4.cell? ⟨w.heap.size, 7, none⟩ = some (.int .i64 (s 7)) := P0.out.cell 7; have f8 : w4.cell? ⟨w.heap.size, 8, none⟩ = some (.slice A n c) := P0.out.cell 8; have f9 : w4.cell? ⟨w.heap.size, 9, none⟩ = some (.int .i64 (s 9)) := P0.out.cell 9; have f10 : w4.cell? ⟨w.heap.size, 10, none⟩ = some (.int .i64 (s 10)) := P0.out.cell 10; have f11 : w4.cell? ⟨w.heap.size, 11, none⟩ = some (.int .i64 (s 11)) := P0.out.cell 11; have f12 : w4.cell? ⟨w.heap.size, 12, none⟩ = some (.int .i64 (s 12)) := P0.out.cell 12; have c0 : w4.cell? ⟨w.heap.size + 1, 0, none⟩ = some (.int .i64 p) := P1.out.cell 0; have c1 : w4.cell? ⟨w.heap.size + 1, 1, none⟩ = some (.int .i64 0) := P1.out.cell 1; have c2 : w4.cell? ⟨w.heap.size + 1, 2, none⟩ = some (.int .i64 0) := P1.out.cell 2; have c3 : w4.cell? ⟨w.heap.size + 1, 3, none⟩ = some (.int .i64 0) := P1.out.cell 3; have c4 : w4.cell? ⟨w.heap.size + 1, 4, none⟩ = some (.bool wa) := P1.out.cell 4; have c5 : w4.cell? ⟨w.heap.size + 1, 5, none⟩ = some (.slice RA rn rc) := P1.out.cell 5; have k0 : w4.cell? ⟨w.heap.size + 2, 0, none⟩ = some (.slice (some ⟨bb, off, none⟩) k cd) := P2.out.cell 0; have k1 : w4.cell? ⟨w.heap.size + 2, 1, none⟩ = some (.int .i64 fl) := P2.out.cell 1; have k2 : w4.cell? ⟨w.heap.size + 2, 2, none⟩ = some (.int .i64 dir) := P2.out.cell 2
    have q0 : w4.cell? ⟨gx, 0, none⟩ = some (.int .u64 u0) := PX.out.cell 0
    have q1 : w4.cell? ⟨gx, 1, none⟩ = some (.int .u64 u1) := PX.out.cell 1
    have g0 := g0h.out
    have g1 := g1h.out
    have g2 := g2h.out
    have g3 := g3h.out
    have HT4 := Lib.hid (HT.out.kept E4.out.drew)
    go_wp2_with fail
    go_region_held3 (fun W => W.cell? ⟨w.heap.size, 0, none⟩ = some (.int .i64 (s 0)) ∧ W.cell? ⟨w.heap.size, 1, none⟩ = some (.int .i64 (s 1)) ∧ W.cell? ⟨w.heap.size, 2, none⟩ = some (.int .i64 (s 2)) ∧ W.cell? ⟨w.heap.size, 3, none⟩ = some (.int .i64 (s 3)) ∧ W.cell? ⟨w.heap.size, 4, none⟩ = some (.int .i64 (s 4)) ∧ W.cell? ⟨w.heap.size, 5, none⟩ = some (.int .i64 (s 5)) ∧ W.cell? ⟨w.heap.size, 6, none⟩ = some (.int .i64 (s 6)) ∧ W.cell? ⟨w.heap.size, 7, none⟩ = some (.int .i64 (s 7)) ∧ W.cell? ⟨w.heap.size, 8, none⟩ = some (.slice A n c) ∧ W.cell? ⟨w.heap.size, 9, none⟩ = some (.int .i64 (s 9)) ∧ W.cell? ⟨w.heap.size, 10, none⟩ = some (.int .i64 (s 10)) ∧ W.cell? ⟨w.heap.size, 11, none⟩ = some (.int .i64 (s 11)) ∧ W.cell? ⟨w.heap.size, 12, none⟩ = some (.int .i64 (s 12)) ∧ W.cell? ⟨w.heap.size + 1, 0, none⟩ = some (.int .i64 p) ∧ W.cell? ⟨w.heap.size + 1, 1, none⟩ = some (.int .i64 0) ∧ W.cell? ⟨w.heap.size + 1, 2, none⟩ = some (.int .i64 0) ∧ W.cell? ⟨w.heap.size + 1, 3, none⟩ = some (.int .i64 0) ∧ W.cell? ⟨w.heap.size + 1, 4, none⟩ = some (.bool wa) ∧ W.cell? ⟨w.heap.size + 1, 5, none⟩ = some (.slice RA rn rc) ∧ W.cell? ⟨w.heap.size + 2, 0, none⟩ = some (.slice (some ⟨bb, off, none⟩) k cd) ∧ W.cell? ⟨w.heap.size + 2, 1, none⟩ = some (.int .i64 fl) ∧ W.cell? ⟨w.heap.size + 2, 2, none⟩ = some (.int .i64 dir) ∧ W.cell? ⟨bb, off, none⟩ = some (.int .u64 x0) ∧ W.cell? ⟨bb, off + 1, none⟩ = some (.int .u64 x1) ∧ W.cell? ⟨bb, off + 2, none⟩ = some (.int .u64 y0) ∧ W.cell? ⟨bb, off + 3, none⟩ = some (.int .u64 y1))
      (go_keep)
      (first
        | (go_at_call 7; refine (HEF.out _ HT4.out).mono ?_; rintro e w5 ⟨rfl, hb5⟩; have Z0 : Blk w5 w.heap.size 25 #[(.int .i64 (s 0) : Value), .int .i64 (s 1), .int .i64 (s 2), .int .i64 (s 3), .int .i64 (s 4), .int .i64 (s 5), .int .i64 (s 6), .int .i64 (s 7), .slice A n c, .int .i64 (s 9), .int .i64 (s 10), .int .i64 (s 11), .int .i64 (s 12)] := Blk.next (w := w4.drew) P0.out hb5; have Z1 : Blk w5 (w.heap.size + 1) 29 #[(.int .i64 p : Value), .int .i64 0, .int .i64 0, .int .i64 0, .bool wa, .slice RA rn rc] := Blk.next (w := w4.drew) P1.out hb5; have Z2 : Blk w5 (w.heap.size + 2) 32 #[(.slice (some ⟨bb, off, none⟩) k cd : Value), .int .i64 fl, .int .i64 dir] := Blk.next (w := w4.drew) P2.out hb5; have g0 : w5.cell? ⟨bb, off, none⟩ = some (.int .u64 x0) := (hb5.cell (p := ⟨bb, off, none⟩) (lt_of_cell g0h.out)).trans g0h.out; have g1 : w5.cell? ⟨bb, off + 1, none⟩ = some (.int .u64 x1) := (hb5.cell (p := ⟨bb, off + 1, none⟩) (lt_of_cell g1h.out)).trans g1h.out; have g2 : w5.cell? ⟨bb, off + 2, none⟩ = some (.int .u64 y0) := (hb5.cell (p := ⟨bb, off + 2, none⟩) (lt_of_cell g2h.out)).trans g2h.out; have g3 : w5.cell? ⟨bb, off + 3, none⟩ = some (.int .u64 y1) := (hb5.cell (p := ⟨bb, off + 3, none⟩) (lt_of_cell g3h.out)).trans g3h.out; have f0 : w5.cell? ⟨w.heap.size, 0, none⟩ = some (.int .i64 (s 0)) := Z0.cell 0; have f1 : w5.cell? ⟨w.heap.size, 1, none⟩ = some (.int .i64 (s 1)) := Z0.cell 1; have f2 : w5.cell? ⟨w.heap.size, 2, none⟩ = some (.int .i64 (s 2)) := Z0.cell 2; have f3 : w5.cell? ⟨w.heap.size, 3, none⟩ = some (.int .i64 (s 3)) := Z0.cell 3; have f4 : w5.cell? ⟨w.heap.size, 4, none⟩ = some (.int .i64 (s 4)) := Z0.cell 4; have f5 : w5.cell? ⟨w.heap.size, 5, none⟩ = some (.int .i64 (s 5)) := Z0.cell 5; have f6 : w5.cell? ⟨w.heap.size, 6, none⟩ = some (.int .i64 (s 6)) := Z0.cell 6; have f7 : w5.cell? ⟨w.heap.size, 7, none⟩ = some (.int .i64 (s 7)) := Z0.cell 7; have f8 : w5.cell? ⟨w.heap.size, 8, none⟩ = some (.slice A n c) := Z0.cell 8; have f9 : w5.cell? ⟨w.heap.size, 9, none⟩ = some (.int .i64 (s 9)) := Z0.cell 9; have f10 : w5.cell? ⟨w.heap.size, 10, none⟩ = some (.int .i64 (s 10)) := Z0.cell 10; have f11 : w5.cell? ⟨w.heap.size, 11, none⟩ = some (.int .i64 (s 11)) := Z0.cell 11; have f12 : w5.cell? ⟨w.heap.size, 12, none⟩ = some (.int .i64 (s 12)) := Z0.cell 12; have c0 : w5.cell? ⟨w.heap.size + 1, 0, none⟩ = some (.int .i64 p) := Z1.cell 0; have c1 : w5.cell? ⟨w.heap.size + 1, 1, none⟩ = some (.int .i64 0) := Z1.cell 1; have c2 : w5.cell? ⟨w.heap.size + 1, 2, none⟩ = some (.int .i64 0) := Z1.cell 2; have c3 : w5.cell? ⟨w.heap.size + 1, 3, none⟩ = some (.int .i64 0) := Z1.cell 3; have c4 : w5.cell? ⟨w.heap.size + 1, 4, none⟩ = some (.bool wa) := Z1.cell 4; have c5 : w5.cell? ⟨w.heap.size + 1, 5, none⟩ = some (.slice RA rn rc) := Z1.cell 5; have k0 : w5.cell? ⟨w.heap.size + 2, 0, none⟩ = some (.slice (some ⟨bb, off, none⟩) k cd) := Z2.cell 0; have k1 : w5.cell? ⟨w.heap.size + 2, 1, none⟩ = some (.int .i64 fl) := Z2.cell 1; have k2 : w5.cell? ⟨w.heap.size + 2, 2, none⟩ = some (.int .i64 dir) := Z2.cell 2; have HZ0 := Lib.hid Z0; clear Z0; have HZ1 := Lib.hid Z1; clear Z1; have HZ2 := Lib.hid Z2; clear Z2))
    have PX := Lib.hid (Blk.next (w := w4.drew) PX.out hb5)
    have q0 : w5.cell? ⟨gx, 0, none⟩ = some (.int .u64 u0) := PX.out.cell 0
    have q1 : w5.cell? ⟨gx, 1, none⟩ = some (.int .u64 u1) := PX.out.cell 1
    have E5 := Lib.hid (E4.out.drew.trans (hb5.mono E4.out.drew.size))
    clear hb5 HEN HEF HT4
    go_wp2_with fail
    refine (HEB.out _ (HT.out.kept E5.out)).mono ?_
    rintro e w6 ⟨rfl, hb6⟩
    have E6 := Lib.hid (E5.out.trans (hb6.mono E5.out.size))
    clear hb6
    go_wp2_with fail
    refine (ealive _ (HT.out.kept E6.out)).mono ?_
    rintro e w7 ⟨rfl, hb7⟩
    go_wp2_with fail
    go_ret
    exact ⟨rfl, E6.out.trans (hb7.mono E6.out.size)⟩
theorem walk {s0 s1 s2 s3 s4 s5 s6 s7 s9 s10 s11 s12 : Int} {A : Option Addr} {c n : Nat} {z : Nat → Nat → Int} {p d md le : Int} {wa : Bool} {RA : Option Addr} {rc rn : Nat} {zr : Nat → Nat → Int} {CA : Option Addr} {cd k : Nat} {cz : Nat → Nat → Int} {fl dir : Int} {w : World} (hs0 : (Lit.int .i64 s0).wf = true) (hs1 : (Lit.int .i64 s1).wf = true) (hs2 : (Lit.int .i64 s2).wf = true) (hs3 : (Lit.int .i64 s3).wf = true) (hs4 : (Lit.int .i64 s4).wf = true) (hs5 : (Lit.int .i64 s5).wf = true) (hs6 : (Lit.int .i64 s6).wf = true) (hs7 : (Lit.int .i64 s7).wf = true) (hl : n ≤ c) (hm : c ≤ maxLen) (hr : RdZ w 3 A n z) (_ : A = none → c = 0) (hs9 : (Lit.int .i64 s9).wf = true) (hs10 : (Lit.int .i64 s10).wf = true) (hs11 : (Lit.int .i64 s11).wf = true) (hs12 : (Lit.int .i64 s12).wf = true) (hp : (Lit.int .i64 p).wf = true) (hd : (Lit.int .i64 d).wf = true) (hmd : (Lit.int .i64 md).wf = true) (hle : (Lit.int .i64 le).wf = true) (hrc : rn ≤ rc) (hrm : rc ≤ maxLen) (_ : RdZ w 2 RA rn zr) (_ : RA = none → rc = 0) (hkd : k ≤ cd) (hdm : cd ≤ maxLen) (hv : RdK w .u64 2 CA k cz) (_ : CA = none → cd = 0) (hfl : (Lit.int .i64 fl).wf = true) (hdir : (Lit.int .i64 dir).wf = true) (hL : laidMetH Tryd.prog Rows.etaLeastRow.laid w) :
    Calls Tryd.prog 3 #[.agg #[.int .i64 s0, .int .i64 s1, .int .i64 s2, .int .i64 s3, .int .i64 s4, .int .i64 s5, .int .i64 s6, .int .i64 s7, .slice A n c, .int .i64 s9, .int .i64 s10, .int .i64 s11, .int .i64 s12], .agg #[.int .i64 p, .int .i64 d, .int .i64 md, .int .i64 le, .bool wa, .slice RA rn rc], .agg #[.slice CA k cd, .int .i64 fl, .int .i64 dir]] w fun e w' => e = .returned (.bool true) ∧ Below w.heap.size w w' := by
  obtain ⟨s, hs⟩ : ∃ s : Nat → Int, s 0 = s0 ∧ s 1 = s1 ∧ s 2 = s2 ∧ s 3 = s3 ∧ s 4 = s4 ∧ s 5 = s5 ∧ s 6 = s6 ∧ s 7 = s7 ∧ s 9 = s9 ∧ s 10 = s10 ∧ s 11 = s11 ∧ s 12 = s12 :=
    ⟨fun j => if j = 0 then s0 else if j = 1 then s1 else if j = 2 then s2 else if j = 3 then s3 else if j = 4 then s4 else if j = 5 then s5 else if j = 6 then s6 else if j = 7 then s7 else if j = 9 then s9 else if j = 10 then s10 else if j = 11 then s11 else s12, rfl, rfl, rfl, rfl, rfl, rfl, rfl, rfl, rfl, rfl, rfl, rfl⟩
  obtain ⟨rfl, rfl, rfl, rfl, rfl, rfl, rfl, rfl, rfl, rfl, rfl, rfl⟩ := hs
  exact walk_f s A n c z p d md le wa RA rn rc CA k cd cz fl dir w (tz_of_laid hL) hr hv hp (Nat.le_trans hl hm) hrc hrm hkd hdm

end Go.Proofs.YteebeiflipfbkaaDoor.etaLeast
