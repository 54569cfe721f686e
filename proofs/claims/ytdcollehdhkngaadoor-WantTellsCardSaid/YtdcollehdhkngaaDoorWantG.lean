/- The document's Of, of a car's wants. -/
import Derived.Test.YtdcollehdhkngaaDoorRows
import Derived.Test.YtdcollehdhkngaaDoorRowKit
import Derived.Test.YtdcollehdhkngaaDoorSlicesEq
import Derived.Test.YtdcollehdhkngaaDoorRowL
import Derived.Test.YtdcollehdhkngaaDoorMakeI
import Derived.Test.YtdcollehdhkngaaDoorBlocks
import Derived.Test.YtdcollehdhkngaaDoorBitsMath
import Derived.Test.YtdcollehdhkngaaDoorBitsA2
import Derived.Test.YtdcollehdhkngaaDoorBitsD
import Derived.Test.YtdcollehdhkngaaDoorBitsE
import Derived.Test.YtdcollehdhkngaaDoorBitsH
import Derived.Test.YtdcollehdhkngaaDoorBitsK
import Derived.Test.YtdcollehdhkngaaDoorBitsP
import Derived.Test.YtdcollehdhkngaaDoorBitsS
import Derived.Test.YtdcollehdhkngaaDoorBitsU
import Derived.Test.YtdcollehdhkngaaDoorBitsX
import Derived.Test.YtdcollehdhkngaaDoorWantA
import Derived.Test.YtdcollehdhkngaaDoorWantB
import Derived.Test.YtdcollehdhkngaaDoorWantC
import Derived.Test.YtdcollehdhkngaaDoorBitsG
import Derived.Test.YtdcollehdhkngaaDoorBitsV
import Derived.Test.YtdcollehdhkngaaDoorWantD
import Derived.Test.YtdcollehdhkngaaDoorRowS
import Derived.Test.YtdcollehdhkngaaDoorRowZ
import Derived.Test.YtdcollehdhkngaaDoorCarA
import Derived.Test.YtdcollehdhkngaaDoorCarB
import Derived.Laws.AppendOwnNone
import Derived.Test.YtdcollehdhkngaaDoorWantF
import Derived.WalkKit
import Derived.OwnWalk
import Derived.Laws.MakeOwn
import Derived.Laws.OwnMore
import Derived.Deep.LoopGhost
import Derived.IntWalk
import Derived.Lib.Hide
import Derived.WalkSpells
import Derived.WalkLawsBesides
import Derived.Laws.CopyOwn
import Derived.Deep.QuietTactic
import Derived.Deep.RegionHeld3
import Derived.BigQuiet
import Derived.BigRegion
namespace Go.Proofs.YtdcollehdhkngaaDoor
open Go.RowKit
set_option linter.unusedSimpArgs false
set_option linter.unusedVariables false
theorem ofF_list (L : List Int) (j : Nat) : ofF L L.length j = true ↔ (j : Int) ∈ L := by
  rw [ofF_mem L j _ (Nat.le_refl _)]
  constructor
  · rintro ⟨i, h1, h2⟩; rw [← h2]; exact zat_mem h1
  · intro h; exact mem_zat h
theorem of_items (G : Nat → Bool) : setV (ofF (itL G 128) (itL G 128).length) = setV G := setV_congr fun j hj => by
  rw [Bool.eq_iff_iff, ofF_list, itL_mem]
  constructor
  · rintro ⟨m, _, h2, h3⟩; obtain rfl : j = m := by omega
    exact h2
  · intro h; exact ⟨j, hj, h, rfl⟩
/-- all that a car is to stop at, as the document lists it -/
def wantL (z : Nat → Nat → Int) (n : Nat) (cap : Int) (U D : Nat → Bool) : List Int := itL (rdF z n) 128 ++ itL (laF n cap U) 128 ++ itL (laF n cap D) 128
theorem wantL_set (z : Nat → Nat → Int) (n : Nat) (cap : Int) (U D : Nat → Bool) : setV (ofF (wantL z n cap U D) (wantL z n cap U D).length) = setV (waF z n cap U D) := setV_congr fun j hj => by
  rw [Bool.eq_iff_iff, ofF_list]
  unfold wantL
  rw [List.mem_append, List.mem_append, itL_mem, itL_mem, itL_mem]
  have key : ∀ F : Nat → Bool, (∃ m : Nat, m < 128 ∧ F m = true ∧ (j : Int) = m) ↔ F j = true := fun F => by
    constructor
    · rintro ⟨m, _, h2, h3⟩; obtain rfl : j = m := by omega
      exact h2
    · intro h; exact ⟨j, hj, h, rfl⟩
  rw [key, key, key]
  unfold waF laF
  split
  · simp
  · simp [or_assoc]
theorem wantL_len (z : Nat → Nat → Int) (n : Nat) (cap : Int) (U D : Nat → Bool) : (wantL z n cap U D).length ≤ 384 := by
  unfold wantL
  rw [List.length_append, List.length_append]
  have h1 := itL_len (rdF z n) 128
  have h2 := itL_len (laF n cap U) 128
  have h3 := itL_len (laF n cap D) 128
  omega
theorem wantL_wf (z : Nat → Nat → Int) (n : Nat) (cap : Int) (U D : Nat → Bool) : ∀ i, i < (wantL z n cap U D).length → (Lit.int .i64 (zat (wantL z n cap U D) i)).wf = true := fun i hi => by
  have hm := zat_mem hi
  unfold wantL at hm
  rw [List.mem_append, List.mem_append, itL_mem, itL_mem, itL_mem] at hm
  unfold wantL
  rcases hm with (⟨m, h1, _, h3⟩ | ⟨m, h1, _, h3⟩) | ⟨m, h1, _, h3⟩
  · rw [h3]; exact WalkArith.wf_i64 (by omega)
  · rw [h3]; exact WalkArith.wf_i64 (by omega)
  · rw [h3]; exact WalkArith.wf_i64 (by omega)
theorem own_next {w w' : World} {base : Nat} {e : TypeId} {size n : Nat} {v : Value} {xs : List Value} (h : w.ownsRow base e size v n xs) (hb : Below w.heap.size w w') : w'.ownsRow base e size v n xs := h.kept (below_growW hb) (Classical.em (v.ownBlock = none))
theorem one_all (xs : List Int) : ∀ u ∈ xs.map (Value.int .i64), u.oneCell' = true := by
  intro u hu
  obtain ⟨a, _, rfl⟩ := List.mem_map.1 hu
  rfl
set_option maxRecDepth 100000 in
set_option maxHeartbeats 4000000 in
theorem rwof_any (p d md l : Int) (wa : Bool) (A : Option Addr) (n c : Nat) (z : Nat → Nat → Int) (cap : Int) (U D : Nat → Bool) (w : World) (hr : RdZ w 2 A n z) (hl : n ≤ 1000) :
    Calls Tryd.prog 40 #[carV p d md l wa A n c, .int .i64 cap, setV U, setV D] w fun e w' => e = .returned (setV (waF z n cap U D)) ∧ Below w.heap.size w w' := by
  obtain ⟨i0, hi, hz0, hz1, hz2⟩ := info_parts mkInfo
  have HR := Lib.hid hr
  have RI := fun w hr => rrides_any p d md l wa A n c z w hr hl
  have LU := fun w => rlands_any p d md l wa A n c cap U w
  have LD := fun w => rlands_any p d md l wa A n c cap D w
  have RO := fun A c w hr => rof_any A c (wantL z n cap U D) w hr (by have := wantL_len z n cap U D; omega)
  rw [wantL_set] at RO
  have i1 := itL_len (rdF z n) 128
  have i2 := itL_len (laF n cap U) 128
  have i3 := itL_len (laF n cap D) 128
  have WF := Lib.hid (wantL_wf z n cap U D)
  have WD := Lib.hid (show wantL z n cap U D = itL (rdF z n) 128 ++ itL (laF n cap U) 128 ++ itL (laF n cap D) 128 from rfl)
  obtain ⟨WL, hWL⟩ : ∃ L, wantL z n cap U D = L := ⟨_, rfl⟩
  rw [hWL] at RO WF WD
  obtain ⟨Lr, hLr⟩ : ∃ L, itL (rdF z n) 128 = L := ⟨_, rfl⟩
  obtain ⟨Lu, hLu⟩ : ∃ L, itL (laF n cap U) 128 = L := ⟨_, rfl⟩
  obtain ⟨Ld, hLd⟩ : ∃ L, itL (laF n cap D) 128 = L := ⟨_, rfl⟩
  rw [hLr] at RI i1 WD
  rw [hLu] at LU i2 WD
  rw [hLd] at LD i3 WD
  obtain ⟨nr, hnr⟩ : ∃ k, Lr.length = k := ⟨_, rfl⟩
  obtain ⟨nu, hnu⟩ : ∃ k, Lu.length = k := ⟨_, rfl⟩
  obtain ⟨nd, hnd⟩ : ∃ k, Ld.length = k := ⟨_, rfl⟩
  rw [hnr] at RI i1
  rw [hnu] at LU i2
  rw [hnd] at LD i3
  have NR := Lib.hid hnr
  have NU := Lib.hid hnu
  have ND := Lib.hid hnd
  clear hWL hLr hLu hLd hnr hnu hnd hr
  unfold carV setV at *
  obtain ⟨a0, ha0⟩ : ∃ x, wordX U = x := ⟨_, rfl⟩
  obtain ⟨a1, ha1⟩ : ∃ x, wordY U = x := ⟨_, rfl⟩
  obtain ⟨b0, hb0⟩ : ∃ x, wordX D = x := ⟨_, rfl⟩
  obtain ⟨b1, hb1⟩ : ∃ x, wordY D = x := ⟨_, rfl⟩
  obtain ⟨t0, ht0⟩ : ∃ x, wordX (waF z n cap U D) = x := ⟨_, rfl⟩
  obtain ⟨t1, ht1⟩ : ∃ x, wordY (waF z n cap U D) = x := ⟨_, rfl⟩
  simp only [ha0, ha1, hb0, hb1, ht0, ht1] at RI LU LD RO ⊢
  replace RI := Lib.hid RI
  replace LU := Lib.hid LU
  replace LD := Lib.hid LD
  replace RO := Lib.hid RO
  clear ha0 ha1 hb0 hb1 ht0 ht1
  go_enter Tryd.func40, Tryd.ntmps40
  go_wp2_with fail
  have B0 := ((Blk.new w #[.int .i64 p, .int .i64 d, .int .i64 md, .int .i64 l, .bool wa, .slice A n c] 47).alloc (.cells #[.int .u64 a0, .int .u64 a1] 24)).alloc (.cells #[.int .u64 b0, .int .u64 b1] 24) |>.alloc (.cells #[.int .u64 0, .int .u64 0] 24)
  have B1 := ((Blk.new (w.alloc (.cells #[.int .i64 p, .int .i64 d, .int .i64 md, .int .i64 l, .bool wa, .slice A n c] 47)) #[.int .u64 a0, .int .u64 a1] 24).alloc (.cells #[.int .u64 b0, .int .u64 b1] 24)).alloc (.cells #[.int .u64 0, .int .u64 0] 24)
  have B2 := (Blk.new ((w.alloc (.cells #[.int .i64 p, .int .i64 d, .int .i64 md, .int .i64 l, .bool wa, .slice A n c] 47)).alloc (.cells #[.int .u64 a0, .int .u64 a1] 24)) #[.int .u64 b0, .int .u64 b1] 24).alloc (.cells #[.int .u64 0, .int .u64 0] 24)
  have B3 := Blk.new (((w.alloc (.cells #[.int .i64 p, .int .i64 d, .int .i64 md, .int .i64 l, .bool wa, .slice A n c] 47)).alloc (.cells #[.int .u64 a0, .int .u64 a1] 24)).alloc (.cells #[.int .u64 b0, .int .u64 b1] 24)) #[.int .u64 0, .int .u64 0] 24
  have BE : Below w.heap.size w ((((w.alloc (.cells #[.int .i64 p, .int .i64 d, .int .i64 md, .int .i64 l, .bool wa, .slice A n c] 47)).alloc (.cells #[.int .u64 a0, .int .u64 a1] 24)).alloc (.cells #[.int .u64 b0, .int .u64 b1] 24)).alloc (.cells #[.int .u64 0, .int .u64 0] 24)) := ((((Below.refl w.heap.size w).alloc (Nat.le_refl _) _).alloc (by simp) _).alloc (by simp; omega) _).alloc (by simp; omega) _
  rw [World.size_alloc] at B1
  rw [World.size_alloc, World.size_alloc] at B2
  rw [World.size_alloc, World.size_alloc, World.size_alloc] at B3
  obtain ⟨V, hV⟩ : ∃ V, (((w.alloc (.cells #[.int .i64 p, .int .i64 d, .int .i64 md, .int .i64 l, .bool wa, .slice A n c] 47)).alloc (.cells #[.int .u64 a0, .int .u64 a1] 24)).alloc (.cells #[.int .u64 b0, .int .u64 b1] 24)).alloc (.cells #[.int .u64 0, .int .u64 0] 24) = V := ⟨_, rfl⟩
  have hsz : V.heap.size = w.heap.size + 1 + 1 + 1 + 1 := by rw [← hV]; simp
  rw [hV] at B0 B1 B2 B3 BE ⊢
  have C0 := Lib.hid B0
  have U0 := Lib.hid B1
  have D0 := Lib.hid B2
  have S0 := Lib.hid B3
  have E0 := Lib.hid BE
  have SZ := Lib.hid hsz
  clear hV B0 B1 B2 B3 BE hsz
  refine (RI.out V (HR.out.kept E0.out)).mono ?_
  rintro e w1 ⟨v, Bv, rfl, how, hB1, hB2, hb⟩
  have OW := Lib.hid how
  have GB := Lib.hid (show w.heap.size + 1 + 1 + 1 + 1 ≤ Bv by have := SZ.out; omega)
  have HB := Lib.hid hB2
  have C1 := Lib.hid (C0.out.next hb)
  have U1 := Lib.hid (U0.out.next hb)
  have D1 := Lib.hid (D0.out.next hb)
  have S1 := Lib.hid (S0.out.next hb)
  have E1 := Lib.hid (E0.out.trans (hb.mono E0.out.size))
  clear hb how hB1 hB2 C0 U0 D0 S0 E0
  have k0 : w1.cell? ⟨w.heap.size, 0, none⟩ = some (.int .i64 p) := C1.out.cell 0
  have k1 : w1.cell? ⟨w.heap.size, 1, none⟩ = some (.int .i64 d) := C1.out.cell 1
  have k2 : w1.cell? ⟨w.heap.size, 2, none⟩ = some (.int .i64 md) := C1.out.cell 2
  have k3 : w1.cell? ⟨w.heap.size, 3, none⟩ = some (.int .i64 l) := C1.out.cell 3
  have k4 : w1.cell? ⟨w.heap.size, 4, none⟩ = some (.bool wa) := C1.out.cell 4
  have k5 : w1.cell? ⟨w.heap.size, 5, none⟩ = some (.slice A n c) := C1.out.cell 5
  obtain ⟨u0, u1, _, _⟩ := U1.out.two
  obtain ⟨m0, m1, _, _⟩ := D1.out.two
  go_wp2_with fail
  refine (LU.out w1).mono ?_
  rintro e w2 ⟨vu, Bu, rfl, how, _, _, hb⟩
  have OW := Lib.hid (own_next OW.out hb)
  have HB := Lib.hid (Nat.le_trans HB.out hb.size)
  have C2 := Lib.hid (C1.out.next hb)
  have U2 := Lib.hid (U1.out.next hb)
  have D2 := Lib.hid (D1.out.next hb)
  have S2 := Lib.hid (S1.out.next hb)
  have E2 := Lib.hid (E1.out.trans (hb.mono E1.out.size))
  clear C1 U1 D1 S1 E1 k0 k1 k2 k3 k4 k5 u0 u1 m0 m1
  have OU := Lib.hid how
  clear hb how
  have k0 : w2.cell? ⟨w.heap.size, 0, none⟩ = some (.int .i64 p) := C2.out.cell 0
  have k1 : w2.cell? ⟨w.heap.size, 1, none⟩ = some (.int .i64 d) := C2.out.cell 1
  have k2 : w2.cell? ⟨w.heap.size, 2, none⟩ = some (.int .i64 md) := C2.out.cell 2
  have k3 : w2.cell? ⟨w.heap.size, 3, none⟩ = some (.int .i64 l) := C2.out.cell 3
  have k4 : w2.cell? ⟨w.heap.size, 4, none⟩ = some (.bool wa) := C2.out.cell 4
  have k5 : w2.cell? ⟨w.heap.size, 5, none⟩ = some (.slice A n c) := C2.out.cell 5
  obtain ⟨u0, u1, _, _⟩ := U2.out.two
  obtain ⟨m0, m1, _, _⟩ := D2.out.two
  rcases OU.out.2 with ⟨rfl, h0⟩ | ⟨gu, capu, curu, rfl, hxu⟩
  · obtain rfl : Lu = [] := List.eq_nil_of_length_eq_zero (by rw [NU.out]; exact h0)
    obtain rfl : nu = 0 := h0
    go_wp2_with (at_builtin; refine wpList_append_own_none rfl _ _ 25 rfl Bv 3 i0 1 Tryd.underlying25 hi v nr _ rfl OW.out rfl ?_)
    refine (LD.out w2).mono ?_
    rintro e w4 ⟨vd, Bd, rfl, how, _, _, hb⟩
    have OW := Lib.hid (own_next OW.out hb)
    have HB := Lib.hid (Nat.le_trans HB.out hb.size)
    have C4 := Lib.hid (C2.out.next hb)
    have U4 := Lib.hid (U2.out.next hb)
    have D4 := Lib.hid (D2.out.next hb)
    have S4 := Lib.hid (S2.out.next hb)
    have E4 := Lib.hid (E2.out.trans (hb.mono E2.out.size))
    clear C2 U2 D2 S2 E2 k0 k1 k2 k3 k4 k5 u0 u1 m0 m1
    have OD := Lib.hid how
    clear hb how
    have k0 : w4.cell? ⟨w.heap.size, 0, none⟩ = some (.int .i64 p) := C4.out.cell 0
    have k1 : w4.cell? ⟨w.heap.size, 1, none⟩ = some (.int .i64 d) := C4.out.cell 1
    have k2 : w4.cell? ⟨w.heap.size, 2, none⟩ = some (.int .i64 md) := C4.out.cell 2
    have k3 : w4.cell? ⟨w.heap.size, 3, none⟩ = some (.int .i64 l) := C4.out.cell 3
    have k4 : w4.cell? ⟨w.heap.size, 4, none⟩ = some (.bool wa) := C4.out.cell 4
    have k5 : w4.cell? ⟨w.heap.size, 5, none⟩ = some (.slice A n c) := C4.out.cell 5
    obtain ⟨u0, u1, _, _⟩ := U4.out.two
    obtain ⟨m0, m1, _, _⟩ := D4.out.two
    rcases OD.out.2 with ⟨rfl, h0⟩ | ⟨gd, capd, curd, rfl, hxd⟩
    · obtain rfl : Ld = [] := List.eq_nil_of_length_eq_zero (by rw [ND.out]; exact h0)
      obtain rfl : nd = 0 := h0
      go_wp2_with (at_builtin; refine wpList_append_own_none rfl _ _ 25 rfl Bv 3 i0 1 Tryd.underlying25 hi v nr _ rfl OW.out rfl ?_)
      obtain ⟨B, cc, hv, hR⟩ := ownR_rd (ys := WL) (by rw [WD.out]; simp only [List.length_append, List.map_append, NR.out, NU.out, ND.out]; first | exact OW.out | simpa using OW.out) WF.out
      subst hv
      have RR := Lib.hid hR
      clear hR
      go_wp2_with fail
      refine (RO.out _ _ _ RR.out).mono ?_
      rintro e w9 ⟨rfl, hb⟩
      obtain ⟨rs0, rs1, rf0, rf1⟩ := (S4.out.next hb).two
      have E9 := Lib.hid (E4.out.trans (hb.mono E4.out.size))
      clear hb
      go_wp2_with fail
      refine bodyPost_ret (v := .agg #[.int .u64 t0, .int .u64 t1]) (by simp [results, Tryd.results40, go_sem, *]) rfl ⟨rfl, (E9.out.setCell (p := ⟨w.heap.size + 1 + 1 + 1, 0, none⟩) (by show w.heap.size ≤ w.heap.size + 1 + 1 + 1; omega) _).setCell (p := ⟨w.heap.size + 1 + 1 + 1, 1, none⟩) (by show w.heap.size ≤ w.heap.size + 1 + 1 + 1; omega) _⟩
    · have hcd := Lib.hid (fun j u h => OD.out.cells (g := gd) rfl j u h)
      clear hxd
      go_wp2_with (
        at_builtin
        refine wpList_append_own _ rfl _ _ 25 rfl Bv 3 i0 (.int .i64 0) 1 8 Tryd.underlying25 hi hz0 hz1 hz2 rfl (by decide) v nr _ rfl OW.out ⟨gd, 0, none⟩ nd capd (Ld.map (Value.int .i64)) rfl (by rw [List.length_map, ND.out]; omega) hcd.out (one_all _) (by unfold maxLen; omega) (by omega) HB.out ?_
        intro vy w5 hown' hgrow _
        have hfar : ∀ q, q < w.heap.size + 1 + 1 + 1 + 1 → some q ≠ v.ownBlock := fun q hq e => by
          have := ownR_ge OW.out e.symm
          have := GB.out
          omega
        have hE : Below w.heap.size w w5 := E4.out.grown hgrow E4.out.size (fun g hg => by
          have h1 := GB.out
          first
            | (have := ownR_ge OW.out hg; omega)
            | (have := ownR_ge OW.out hg.symm; omega))
        have C5 : Hid (Blk w5 w.heap.size 47 #[.int .i64 p, .int .i64 d, .int .i64 md, .int .i64 l, .bool wa, .slice A n c]) := Lib.hid ((hgrow.block _ C4.out.lt (hfar _ (by omega))).trans C4.out)
        have U5 : Hid (Blk w5 (w.heap.size + 1) 24 #[.int .u64 a0, .int .u64 a1]) := Lib.hid ((hgrow.block _ U4.out.lt (hfar _ (by omega))).trans U4.out)
        have D5 : Hid (Blk w5 (w.heap.size + 1 + 1) 24 #[.int .u64 b0, .int .u64 b1]) := Lib.hid ((hgrow.block _ D4.out.lt (hfar _ (by omega))).trans D4.out)
        have S5 : Hid (Blk w5 (w.heap.size + 1 + 1 + 1) 24 #[.int .u64 0, .int .u64 0]) := Lib.hid ((hgrow.block _ S4.out.lt (hfar _ (by omega))).trans S4.out)
        have E5 := Lib.hid hE
        have HB := Lib.hid (Nat.le_trans HB.out hgrow.size)
        have OW := Lib.hid hown'
        clear hown' hgrow hfar hE C4 U4 D4 S4 E4 k0 k1 k2 k3 k4 k5 u0 u1 m0 m1)
      obtain ⟨B, cc, hv, hR⟩ := ownR_rd (ys := WL) (by rw [WD.out]; simp only [List.length_append, List.map_append, NR.out, NU.out, ND.out]; first | exact OW.out | simpa using OW.out) WF.out
      subst hv
      have RR := Lib.hid hR
      clear hR
      go_wp2_with fail
      refine (RO.out _ _ _ RR.out).mono ?_
      rintro e w9 ⟨rfl, hb⟩
      obtain ⟨rs0, rs1, rf0, rf1⟩ := (S5.out.next hb).two
      have E9 := Lib.hid (E5.out.trans (hb.mono E5.out.size))
      clear hb
      go_wp2_with fail
      refine bodyPost_ret (v := .agg #[.int .u64 t0, .int .u64 t1]) (by simp [results, Tryd.results40, go_sem, *]) rfl ⟨rfl, (E9.out.setCell (p := ⟨w.heap.size + 1 + 1 + 1, 0, none⟩) (by show w.heap.size ≤ w.heap.size + 1 + 1 + 1; omega) _).setCell (p := ⟨w.heap.size + 1 + 1 + 1, 1, none⟩) (by show w.heap.size ≤ w.heap.size + 1 + 1 + 1; omega) _⟩
  · have hcu := Lib.hid (fun j u h => OU.out.cells (g := gu) rfl j u h)
    clear hxu
    go_wp2_with (
      at_builtin
      refine wpList_append_own _ rfl _ _ 25 rfl Bv 3 i0 (.int .i64 0) 1 8 Tryd.underlying25 hi hz0 hz1 hz2 rfl (by decide) v nr _ rfl OW.out ⟨gu, 0, none⟩ nu capu (Lu.map (Value.int .i64)) rfl (by rw [List.length_map, NU.out]; omega) hcu.out (one_all _) (by unfold maxLen; omega) (by omega) HB.out ?_
      intro vx w3 hown' hgrow _
      have hfar : ∀ q, q < w.heap.size + 1 + 1 + 1 + 1 → some q ≠ v.ownBlock := fun q hq e => by
        have := ownR_ge OW.out e.symm
        have := GB.out
        omega
      have hE : Below w.heap.size w w3 := E2.out.grown hgrow E2.out.size (fun g hg => by
        have h1 := GB.out
        first
          | (have := ownR_ge OW.out hg; omega)
          | (have := ownR_ge OW.out hg.symm; omega))
      have C3 : Hid (Blk w3 w.heap.size 47 #[.int .i64 p, .int .i64 d, .int .i64 md, .int .i64 l, .bool wa, .slice A n c]) := Lib.hid ((hgrow.block _ C2.out.lt (hfar _ (by omega))).trans C2.out)
      have U3 : Hid (Blk w3 (w.heap.size + 1) 24 #[.int .u64 a0, .int .u64 a1]) := Lib.hid ((hgrow.block _ U2.out.lt (hfar _ (by omega))).trans U2.out)
      have D3 : Hid (Blk w3 (w.heap.size + 1 + 1) 24 #[.int .u64 b0, .int .u64 b1]) := Lib.hid ((hgrow.block _ D2.out.lt (hfar _ (by omega))).trans D2.out)
      have S3 : Hid (Blk w3 (w.heap.size + 1 + 1 + 1) 24 #[.int .u64 0, .int .u64 0]) := Lib.hid ((hgrow.block _ S2.out.lt (hfar _ (by omega))).trans S2.out)
      have E3 := Lib.hid hE
      have HB := Lib.hid (Nat.le_trans HB.out hgrow.size)
      have OW := Lib.hid hown'
      clear hown' hgrow hfar hE C2 U2 D2 S2 E2 k0 k1 k2 k3 k4 k5 u0 u1 m0 m1
      have k0 : w3.cell? ⟨w.heap.size, 0, none⟩ = some (.int .i64 p) := C3.out.cell 0
      have k1 : w3.cell? ⟨w.heap.size, 1, none⟩ = some (.int .i64 d) := C3.out.cell 1
      have k2 : w3.cell? ⟨w.heap.size, 2, none⟩ = some (.int .i64 md) := C3.out.cell 2
      have k3 : w3.cell? ⟨w.heap.size, 3, none⟩ = some (.int .i64 l) := C3.out.cell 3
      have k4 : w3.cell? ⟨w.heap.size, 4, none⟩ = some (.bool wa) := C3.out.cell 4
      have k5 : w3.cell? ⟨w.heap.size, 5, none⟩ = some (.slice A n c) := C3.out.cell 5
      obtain ⟨u0, u1, _, _⟩ := U3.out.two
      obtain ⟨m0, m1, _, _⟩ := D3.out.two)
    refine (LD.out w3).mono ?_
    rintro e w4 ⟨vd, Bd, rfl, how, _, _, hb⟩
    have OW := Lib.hid (own_next OW.out hb)
    have HB := Lib.hid (Nat.le_trans HB.out hb.size)
    have C4 := Lib.hid (C3.out.next hb)
    have U4 := Lib.hid (U3.out.next hb)
    have D4 := Lib.hid (D3.out.next hb)
    have S4 := Lib.hid (S3.out.next hb)
    have E4 := Lib.hid (E3.out.trans (hb.mono E3.out.size))
    clear C3 U3 D3 S3 E3 k0 k1 k2 k3 k4 k5 u0 u1 m0 m1
    have OD := Lib.hid how
    clear hb how
    have k0 : w4.cell? ⟨w.heap.size, 0, none⟩ = some (.int .i64 p) := C4.out.cell 0
    have k1 : w4.cell? ⟨w.heap.size, 1, none⟩ = some (.int .i64 d) := C4.out.cell 1
    have k2 : w4.cell? ⟨w.heap.size, 2, none⟩ = some (.int .i64 md) := C4.out.cell 2
    have k3 : w4.cell? ⟨w.heap.size, 3, none⟩ = some (.int .i64 l) := C4.out.cell 3
    have k4 : w4.cell? ⟨w.heap.size, 4, none⟩ = some (.bool wa) := C4.out.cell 4
    have k5 : w4.cell? ⟨w.heap.size, 5, none⟩ = some (.slice A n c) := C4.out.cell 5
    obtain ⟨u0, u1, _, _⟩ := U4.out.two
    obtain ⟨m0, m1, _, _⟩ := D4.out.two
    rcases OD.out.2 with ⟨rfl, h0⟩ | ⟨gd, capd, curd, rfl, hxd⟩
    · obtain rfl : Ld = [] := List.eq_nil_of_length_eq_zero (by rw [ND.out]; exact h0)
      obtain rfl : nd = 0 := h0
      go_wp2_with (at_builtin; refine wpList_append_own_none rfl _ _ 25 rfl Bv 3 i0 1 Tryd.underlying25 hi vx (nr + nu) _ rfl OW.out rfl ?_)
      obtain ⟨B, cc, hv, hR⟩ := ownR_rd (ys := WL) (by rw [WD.out]; simp only [List.length_append, List.map_append, NR.out, NU.out, ND.out]; first | exact OW.out | simpa using OW.out) WF.out
      subst hv
      have RR := Lib.hid hR
      clear hR
      go_wp2_with fail
      refine (RO.out _ _ _ RR.out).mono ?_
      rintro e w9 ⟨rfl, hb⟩
      obtain ⟨rs0, rs1, rf0, rf1⟩ := (S4.out.next hb).two
      have E9 := Lib.hid (E4.out.trans (hb.mono E4.out.size))
      clear hb
      go_wp2_with fail
      refine bodyPost_ret (v := .agg #[.int .u64 t0, .int .u64 t1]) (by simp [results, Tryd.results40, go_sem, *]) rfl ⟨rfl, (E9.out.setCell (p := ⟨w.heap.size + 1 + 1 + 1, 0, none⟩) (by show w.heap.size ≤ w.heap.size + 1 + 1 + 1; omega) _).setCell (p := ⟨w.heap.size + 1 + 1 + 1, 1, none⟩) (by show w.heap.size ≤ w.heap.size + 1 + 1 + 1; omega) _⟩
    · have hcd := Lib.hid (fun j u h => OD.out.cells (g := gd) rfl j u h)
      clear hxd
      go_wp2_with (
        at_builtin
        refine wpList_append_own _ rfl _ _ 25 rfl Bv 3 i0 (.int .i64 0) 1 8 Tryd.underlying25 hi hz0 hz1 hz2 rfl (by decide) vx (nr + nu) _ rfl OW.out ⟨gd, 0, none⟩ nd capd (Ld.map (Value.int .i64)) rfl (by rw [List.length_map, ND.out]; omega) hcd.out (one_all _) (by unfold maxLen; omega) (by omega) HB.out ?_
        intro vy w5 hown' hgrow _
        have hfar : ∀ q, q < w.heap.size + 1 + 1 + 1 + 1 → some q ≠ vx.ownBlock := fun q hq e => by
          have := ownR_ge OW.out e.symm
          have := GB.out
          omega
        have hE : Below w.heap.size w w5 := E4.out.grown hgrow E4.out.size (fun g hg => by
          have h1 := GB.out
          first
            | (have := ownR_ge OW.out hg; omega)
            | (have := ownR_ge OW.out hg.symm; omega))
        have C5 : Hid (Blk w5 w.heap.size 47 #[.int .i64 p, .int .i64 d, .int .i64 md, .int .i64 l, .bool wa, .slice A n c]) := Lib.hid ((hgrow.block _ C4.out.lt (hfar _ (by omega))).trans C4.out)
        have U5 : Hid (Blk w5 (w.heap.size + 1) 24 #[.int .u64 a0, .int .u64 a1]) := Lib.hid ((hgrow.block _ U4.out.lt (hfar _ (by omega))).trans U4.out)
        have D5 : Hid (Blk w5 (w.heap.size + 1 + 1) 24 #[.int .u64 b0, .int .u64 b1]) := Lib.hid ((hgrow.block _ D4.out.lt (hfar _ (by omega))).trans D4.out)
        have S5 : Hid (Blk w5 (w.heap.size + 1 + 1 + 1) 24 #[.int .u64 0, .int .u64 0]) := Lib.hid ((hgrow.block _ S4.out.lt (hfar _ (by omega))).trans S4.out)
        have E5 := Lib.hid hE
        have HB := Lib.hid (Nat.le_trans HB.out hgrow.size)
        have OW := Lib.hid hown'
        clear hown' hgrow hfar hE C4 U4 D4 S4 E4 k0 k1 k2 k3 k4 k5 u0 u1 m0 m1)
      obtain ⟨B, cc, hv, hR⟩ := ownR_rd (ys := WL) (by rw [WD.out]; simp only [List.length_append, List.map_append, NR.out, NU.out, ND.out]; first | exact OW.out | simpa using OW.out) WF.out
      subst hv
      have RR := Lib.hid hR
      clear hR
      go_wp2_with fail
      refine (RO.out _ _ _ RR.out).mono ?_
      rintro e w9 ⟨rfl, hb⟩
      obtain ⟨rs0, rs1, rf0, rf1⟩ := (S5.out.next hb).two
      have E9 := Lib.hid (E5.out.trans (hb.mono E5.out.size))
      clear hb
      go_wp2_with fail
      refine bodyPost_ret (v := .agg #[.int .u64 t0, .int .u64 t1]) (by simp [results, Tryd.results40, go_sem, *]) rfl ⟨rfl, (E9.out.setCell (p := ⟨w.heap.size + 1 + 1 + 1, 0, none⟩) (by show w.heap.size ≤ w.heap.size + 1 + 1 + 1; omega) _).setCell (p := ⟨w.heap.size + 1 + 1 + 1, 1, none⟩) (by show w.heap.size ≤ w.heap.size + 1 + 1 + 1; omega) _⟩
end Go.Proofs.YtdcollehdhkngaaDoor
