/- The walk of WantBeyond: it answers true for every input, and leaves all old blocks as they were. No condition but the laid tables, which are tied to the text. -/
import Derived.Test.YtdcollehdhkngaaDoorRows
import Derived.Test.YtdcollehdhkngaaDoorRowKit
import Derived.Test.YtdcollehdhkngaaDoorRowS
import Derived.Test.YtdcollehdhkngaaDoorBlocks
import Derived.Test.YtdcollehdhkngaaDoorSlicesEq
import Derived.Test.YtdcollehdhkngaaDoorSlicesEqM
import Derived.Test.YtdcollehdhkngaaDoorRowL
import Derived.Test.YtdcollehdhkngaaDoorMakeI
import Derived.Test.YtdcollehdhkngaaDoorBitsMath
import Derived.Test.YtdcollehdhkngaaDoorBitsA2
import Derived.Test.YtdcollehdhkngaaDoorBitsD
import Derived.Test.YtdcollehdhkngaaDoorBitsE
import Derived.Test.YtdcollehdhkngaaDoorBitsG
import Derived.Test.YtdcollehdhkngaaDoorBitsH
import Derived.Test.YtdcollehdhkngaaDoorBitsK
import Derived.Test.YtdcollehdhkngaaDoorBitsL
import Derived.Test.YtdcollehdhkngaaDoorBitsN
import Derived.Test.YtdcollehdhkngaaDoorBitsP
import Derived.Test.YtdcollehdhkngaaDoorBitsS
import Derived.Test.YtdcollehdhkngaaDoorBitsU
import Derived.Test.YtdcollehdhkngaaDoorBitsV
import Derived.Test.YtdcollehdhkngaaDoorBitsWa
import Derived.Test.YtdcollehdhkngaaDoorBitsX
import Derived.Test.YtdcollehdhkngaaDoorWantA
import Derived.Test.YtdcollehdhkngaaDoorWantB
import Derived.Test.YtdcollehdhkngaaDoorWantC
import Derived.Test.YtdcollehdhkngaaDoorWantD
import Derived.Test.YtdcollehdhkngaaDoorWantE
import Derived.WalkKit
import Derived.ProofKit
import Derived.OpenShut
import Derived.Deep.QuietTactic
import Derived.BigQuiet
import Derived.Lib.SmallJoins
import Derived.Lib.Hide
import Derived.WalkSpells
import Derived.WalkLawsBesides
import Derived.Lib.TrailingZeros
import Derived.Lib.LaidTab
import Derived.Lib.LaidU8
import Derived.Deep.LoopGhost
import Derived.Deep.RegionHeld3
import Derived.IntWalk
namespace Go.Proofs.YtdcollehdhkngaaDoor.wantBeyond
open Go.ChangeShapes Go.WideShapes Go.ChangeAt Go.RowKit Go.Joins
set_option linter.unusedSimpArgs false
set_option linter.unusedVariables false

theorem bz_gT : Tryd.prog.globalNamed "math/bits.deBruijn64tab" = some 0 := by kernel_rfl
theorem bz_gTType : (Tryd.prog.globals[0]?).map (·.type) = some 111 := by kernel_rfl
theorem tz_of_laid {w : World} (h0 : laidMetH Tryd.prog Rows.wantBeyondRow.laid w) : TzT w := by
  have h : laidMet Tryd.prog Rows.wantBeyondRow.laid w := h0
  obtain ⟨g', t', cs, fuel, p, hg', ht', hvar, hd⟩ := Lib.laidMet.reads h (.head _)
  obtain rfl := Option.some.inj (bz_gT.symm.trans hg')
  obtain rfl := Option.some.inj (bz_gTType.symm.trans ht')
  have e := Lib.cells_of_tab (zs := Lib.deBruijn64tab.map Int.ofNat) Tryd.underlying111 Tryd.underlying5 (by kernel_rfl) (by kernel_rfl) hd
  unfold World.var? at hvar
  rw [bz_gT] at hvar
  simp only [Option.bind_some] at hvar
  split at hvar
  · rename_i cs' t fr hg
    cases hvar
    intro j hj
    show w.cell? _ = _
    rw [cell_of_row w _ j cs t fr hg, ← Array.getElem?_toList, e, List.getElem?_map, List.getElem?_map, List.getElem?_eq_getElem hj, List.getD_eq_getElem?_getD, List.getElem?_eq_getElem hj]
    rfl
  · cases hvar
set_option maxRecDepth 100000 in
set_option maxHeartbeats 4000000 in
theorem walk_f (F : Nat → Bool) (a b d : Int) (w : World) (hT : TzT w) :
    Calls Tryd.prog 7 #[setV F, .agg #[.int .i64 a, .int .i64 b], .int .i64 d] w fun e w' => e = .returned (.bool true) ∧ Below w.heap.size w w' := by
  have G0 : (a < -1) ∨ (-1 ≤ a ∧ 128 < a) ∨ (-1 ≤ a ∧ a ≤ 128 ∧ b < -1) ∨ (-1 ≤ a ∧ a ≤ 128 ∧ -1 ≤ b ∧ 128 < b) ∨ (-1 ≤ a ∧ a ≤ 128 ∧ -1 ≤ b ∧ b ≤ 128) := by omega
  have early : ∀ (_ : (a < -1) ∨ (-1 ≤ a ∧ 128 < a) ∨ (-1 ≤ a ∧ a ≤ 128 ∧ b < -1) ∨ (-1 ≤ a ∧ a ≤ 128 ∧ -1 ≤ b ∧ 128 < b)), Calls Tryd.prog 7 #[setV F, .agg #[.int .i64 a, .int .i64 b], .int .i64 d] w fun e w' => e = .returned (.bool true) ∧ Below w.heap.size w w' := by
    intro h
    clear G0
    unfold setV
    rcases h with h | ⟨h, h1⟩ | ⟨h, h1, h2⟩ | ⟨h, h1, h2, h3⟩
    all_goals (
      go_enter Tryd.func7, Tryd.ntmps7
      go_wp2_with fail
      go_ret
      exact ⟨rfl, ((Below.refl w.heap.size w).alloc (Nat.le_refl _) _).alloc (by simp) _⟩)
  rcases G0 with h | h | h | h | ⟨h1, h2, h3, h4⟩
  · exact early (.inl h)
  · exact early (.inr (.inl h))
  · exact early (.inr (.inr (.inl h)))
  · exact early (.inr (.inr (.inr h)))
  clear early
  have HT := Lib.hid hT
  have DB := fun w => rbeyond_any F a d w
  have PN := fun w hT => nearest_any F a d w hT
  have PL := fun w hT => last_any F a d w hT
  have PB := fun w => beyond_any F a d w
  have DO := fun A c w hr => rof_any A c (rbL F a d) w hr (by have := rbL_len F a d; omega)
  simp only [rbL_set] at DO
  have PW := fun w hT => between_any F a b w hT
  have DW := fun w => rbetween_any F a b w
  have LL := rbL_len F a d
  have E0 := fun near h => end_none near F a d h
  have E1 := fun near i hi he => end_some near F a d i hi he
  unfold setV at *
  obtain ⟨x, hX⟩ : ∃ x, wordX F = x := ⟨_, rfl⟩
  obtain ⟨y, hY⟩ : ∃ y, wordY F = y := ⟨_, rfl⟩
  obtain ⟨p0, hp0⟩ : ∃ x, wordX (byF F a d) = x := ⟨_, rfl⟩
  obtain ⟨p1, hp1⟩ : ∃ x, wordY (byF F a d) = x := ⟨_, rfl⟩
  obtain ⟨l, hl⟩ : ∃ l, rbL F a d = l := ⟨_, rfl⟩
  obtain ⟨N, hN⟩ : ∃ N, l.length = N := ⟨_, rfl⟩
  obtain ⟨q, hq⟩ : ∃ q, btP a b (itL F 128) = q := ⟨_, rfl⟩
  rw [hl] at LL
  simp only [hX, hY, hp0, hp1, hl, hN, hq] at DB PN PL PB DO PW DW LL E0 E1 ⊢
  replace DB := Lib.hid DB
  replace PN := Lib.hid PN
  replace PL := Lib.hid PL
  replace PB := Lib.hid PB
  replace DO := Lib.hid DO
  replace PW := Lib.hid PW
  replace DW := Lib.hid DW
  replace E0 := Lib.hid E0
  replace E1 := Lib.hid E1
  have HN := Lib.hid hN
  have EQ0 := set_same p0 p1
  have hNI : (N : Int) ≤ 128 := by omega
  clear hX hY hp0 hp1 hl hN hq hT
  go_enter Tryd.func7, Tryd.ntmps7
  go_wp2_with fail
  obtain ⟨B1, B2, _, BE⟩ := two_blk (w := w) (Below.refl _ ((w.alloc (.cells #[(.int .u64 x : Value), .int .u64 y] 24)).alloc (.cells #[(.int .i64 a : Value), .int .i64 b] 56)))
  obtain ⟨V, hV⟩ : ∃ V, (w.alloc (.cells #[(.int .u64 x : Value), .int .u64 y] 24)).alloc (.cells #[(.int .i64 a : Value), .int .i64 b] 56) = V := ⟨_, rfl⟩
  rw [hV] at B1 B2 BE ⊢
  have HB1 := Lib.hid B1
  have HB2 := Lib.hid B2
  have BEh := Lib.hid BE
  clear hV B1 B2 BE
  refine (DB.out _).mono ?_
  rintro e w1 ⟨LA, LC, rfl, hR, hb⟩
  have RL := Lib.hid hR
  have C1 := Lib.hid (HB1.out.next hb)
  have D1 := Lib.hid (HB2.out.next hb)
  have F1 := Lib.hid (BEh.out.trans (hb.mono BEh.out.size))
  clear hR hb HB1 HB2 BEh
  obtain ⟨c0, c1, _, _⟩ := C1.out.two
  obtain ⟨d0, d1, _, _⟩ := D1.out.two
  go_wp2_with fail
  refine (PN.out _ (HT.out.kept F1.out)).mono ?_
  rintro e w2 ⟨r, rb, rfl, hh, hb⟩
  have NN := Lib.hid hh
  have R2 := Lib.hid (RL.out.kept hb)
  have C2 := Lib.hid (C1.out.next hb)
  have D2 := Lib.hid (D1.out.next hb)
  have F2 := Lib.hid (F1.out.trans (hb.mono F1.out.size))
  clear hh hb C1 D1 F1 RL c0 c1 d0 d1
  obtain ⟨c0, c1, _, _⟩ := C2.out.two
  obtain ⟨d0, d1, _, _⟩ := D2.out.two
  go_wp2_with fail
  refine (PL.out _ (HT.out.kept F2.out)).mono ?_
  rintro e w3 ⟨s, sb, rfl, hh, hb⟩
  have NL := Lib.hid hh
  have RL := Lib.hid (R2.out.kept hb)
  have C3 := Lib.hid (C2.out.next hb)
  have D3 := Lib.hid (D2.out.next hb)
  have BEh := Lib.hid (F2.out.trans (hb.mono F2.out.size))
  clear hh hb C2 D2 F2 R2 c0 c1 d0 d1
  obtain ⟨c0, c1, _, _⟩ := C3.out.two
  obtain ⟨d0, d1, _, _⟩ := D3.out.two
  obtain ⟨V, hV⟩ : ∃ V, w3 = V := ⟨_, rfl⟩
  rw [hV] at RL BEh c0 c1 d0 d1
  rw [hV]
  clear hV C3 D3
  by_cases hn0 : N = 0
  · obtain ⟨rfl, rfl⟩ := NN.out.same (E0.out true hn0)
    obtain ⟨rfl, rfl⟩ := NL.out.same (E0.out false hn0)
    subst hn0
    clear NN NL E0 E1
    go_wp2_with fail
    go_region_held3 (fun W => W.cell? ⟨w.heap.size, 0, none⟩ = some (.int .u64 x) ∧ W.cell? ⟨w.heap.size, 1, none⟩ = some (.int .u64 y) ∧ W.cell? ⟨w.heap.size + 1, 0, none⟩ = some (.int .i64 a) ∧ W.cell? ⟨w.heap.size + 1, 1, none⟩ = some (.int .i64 b))
      (go_keep)
      (first
      | (go_at_call 45; refine (PB.out (V.drew)).mono ?_; rintro e v1 ⟨rfl, hb⟩; have nc00 := Lib.hid (bkeep (w := V.drew) hb c0); have nc10 := Lib.hid (bkeep (w := V.drew) hb c1); have nd00 := Lib.hid (bkeep (w := V.drew) hb d0); have nd10 := Lib.hid (bkeep (w := V.drew) hb d1); clear c0 c1 d0 d1; have c0 := nc00.out; have c1 := nc10.out; have d0 := nd00.out; have d1 := nd10.out; have RK := Lib.hid ((RL.out.kept (Below.refl _ V).drew).kept hb); have BEh1 := Lib.hid ((BEh.out.drew).trans (hb.mono (BEh.out.drew).size)); clear hb)
      | (go_at_call 12; refine (DO.out _ _ (v1) RK.out).mono ?_; rintro e v2 ⟨rfl, hb⟩; have nc01 := Lib.hid (bkeep (w := v1) hb c0); have nc11 := Lib.hid (bkeep (w := v1) hb c1); have nd01 := Lib.hid (bkeep (w := v1) hb d0); have nd11 := Lib.hid (bkeep (w := v1) hb d1); clear c0 c1 d0 d1; have c0 := nc01.out; have c1 := nc11.out; have d0 := nd01.out; have d1 := nd11.out; have BEh2 := Lib.hid (BEh1.out.trans (hb.mono BEh1.out.size)); clear hb)
      | (go_at_call 46; refine (PW.out (v2) (HT.out.kept BEh2.out)).mono ?_; rintro e v3 ⟨rfl, hb⟩; have nc02 := Lib.hid (bkeep (w := v2) hb c0); have nc12 := Lib.hid (bkeep (w := v2) hb c1); have nd02 := Lib.hid (bkeep (w := v2) hb d0); have nd12 := Lib.hid (bkeep (w := v2) hb d1); clear c0 c1 d0 d1; have c0 := nc02.out; have c1 := nc12.out; have d0 := nd02.out; have d1 := nd12.out; have BEh3 := Lib.hid (BEh2.out.trans (hb.mono BEh2.out.size)); clear hb)
      | (go_at_call 47; refine (DW.out (v3)).mono ?_; rintro e v4 ⟨rfl, hb⟩; have nc03 := Lib.hid (bkeep (w := v3) hb c0); have nc13 := Lib.hid (bkeep (w := v3) hb c1); have nd03 := Lib.hid (bkeep (w := v3) hb d0); have nd13 := Lib.hid (bkeep (w := v3) hb d1); clear c0 c1 d0 d1; have c0 := nc03.out; have c1 := nc13.out; have d0 := nd03.out; have d1 := nd13.out; have BEh4 := Lib.hid (BEh3.out.trans (hb.mono BEh3.out.size)); clear hb)
      | (go_at_call 41; refine (walive (v4) (HT.out.kept BEh4.out)).mono ?_; rintro e v5 ⟨rfl, hb⟩; have nc04 := Lib.hid (bkeep (w := v4) hb c0); have nc14 := Lib.hid (bkeep (w := v4) hb c1); have nd04 := Lib.hid (bkeep (w := v4) hb d0); have nd14 := Lib.hid (bkeep (w := v4) hb d1); clear c0 c1 d0 d1; have c0 := nc04.out; have c1 := nc14.out; have d0 := nd04.out; have d1 := nd14.out; have BEh5 := Lib.hid (BEh4.out.trans (hb.mono BEh4.out.size)); clear hb))
    go_wp2_with fail
    go_ret
    exact ⟨rfl, BEh5.out⟩
  · have i0 := E1.out true 0 (by omega) rfl
    have i1 := E1.out false (N - 1) (by omega) rfl
    obtain ⟨rfl, rfl⟩ := NN.out.same i0
    obtain ⟨rfl, rfl⟩ := NL.out.same i1
    obtain ⟨bb, off, rfl, hlt, hc⟩ := rdI_row RL.out (by have := HN.out; omega)
    have k0 := hc 0 (by have := HN.out; omega)
    have k1 := hc (N - 1) (by have := HN.out; omega)
    obtain ⟨z0, hz0⟩ : ∃ z, zat l 0 = z := ⟨_, rfl⟩
    obtain ⟨z1, hz1⟩ : ∃ z, zat l (N - 1) = z := ⟨_, rfl⟩
    rw [hz0] at k0 ⊢
    rw [hz1] at k1 ⊢
    simp only [Nat.add_zero] at k0
    have g0 : (0 : Int) < N := by omega
    have g1 : ((N : Int) - 1).toNat = N - 1 := by omega
    clear hc NN NL E0 E1 i0 i1 hz0 hz1
    go_wp2_with fail
    go_region_held3 (fun W => W.cell? ⟨w.heap.size, 0, none⟩ = some (.int .u64 x) ∧ W.cell? ⟨w.heap.size, 1, none⟩ = some (.int .u64 y) ∧ W.cell? ⟨w.heap.size + 1, 0, none⟩ = some (.int .i64 a) ∧ W.cell? ⟨w.heap.size + 1, 1, none⟩ = some (.int .i64 b))
      (go_keep)
      (first
      | (go_at_call 45; refine (PB.out (V.drew)).mono ?_; rintro e v1 ⟨rfl, hb⟩; have nc00 := Lib.hid (bkeep (w := V.drew) hb c0); have nc10 := Lib.hid (bkeep (w := V.drew) hb c1); have nd00 := Lib.hid (bkeep (w := V.drew) hb d0); have nd10 := Lib.hid (bkeep (w := V.drew) hb d1); clear c0 c1 d0 d1; have c0 := nc00.out; have c1 := nc10.out; have d0 := nd00.out; have d1 := nd10.out; have RK := Lib.hid ((RL.out.kept (Below.refl _ V).drew).kept hb); have BEh1 := Lib.hid ((BEh.out.drew).trans (hb.mono (BEh.out.drew).size)); clear hb)
      | (go_at_call 12; refine (DO.out _ _ (v1) RK.out).mono ?_; rintro e v2 ⟨rfl, hb⟩; have nc01 := Lib.hid (bkeep (w := v1) hb c0); have nc11 := Lib.hid (bkeep (w := v1) hb c1); have nd01 := Lib.hid (bkeep (w := v1) hb d0); have nd11 := Lib.hid (bkeep (w := v1) hb d1); clear c0 c1 d0 d1; have c0 := nc01.out; have c1 := nc11.out; have d0 := nd01.out; have d1 := nd11.out; have BEh2 := Lib.hid (BEh1.out.trans (hb.mono BEh1.out.size)); clear hb)
      | (go_at_call 46; refine (PW.out (v2) (HT.out.kept BEh2.out)).mono ?_; rintro e v3 ⟨rfl, hb⟩; have nc02 := Lib.hid (bkeep (w := v2) hb c0); have nc12 := Lib.hid (bkeep (w := v2) hb c1); have nd02 := Lib.hid (bkeep (w := v2) hb d0); have nd12 := Lib.hid (bkeep (w := v2) hb d1); clear c0 c1 d0 d1; have c0 := nc02.out; have c1 := nc12.out; have d0 := nd02.out; have d1 := nd12.out; have BEh3 := Lib.hid (BEh2.out.trans (hb.mono BEh2.out.size)); clear hb)
      | (go_at_call 47; refine (DW.out (v3)).mono ?_; rintro e v4 ⟨rfl, hb⟩; have nc03 := Lib.hid (bkeep (w := v3) hb c0); have nc13 := Lib.hid (bkeep (w := v3) hb c1); have nd03 := Lib.hid (bkeep (w := v3) hb d0); have nd13 := Lib.hid (bkeep (w := v3) hb d1); clear c0 c1 d0 d1; have c0 := nc03.out; have c1 := nc13.out; have d0 := nd03.out; have d1 := nd13.out; have BEh4 := Lib.hid (BEh3.out.trans (hb.mono BEh3.out.size)); clear hb)
      | (go_at_call 41; refine (walive (v4) (HT.out.kept BEh4.out)).mono ?_; rintro e v5 ⟨rfl, hb⟩; have nc04 := Lib.hid (bkeep (w := v4) hb c0); have nc14 := Lib.hid (bkeep (w := v4) hb c1); have nd04 := Lib.hid (bkeep (w := v4) hb d0); have nd14 := Lib.hid (bkeep (w := v4) hb d1); clear c0 c1 d0 d1; have c0 := nc04.out; have c1 := nc14.out; have d0 := nd04.out; have d1 := nd14.out; have BEh5 := Lib.hid (BEh4.out.trans (hb.mono BEh4.out.size)); clear hb))
    go_wp2_with fail
    go_ret
    exact ⟨rfl, BEh5.out⟩
theorem walk {a b c e d : Int} (w0 : (Lit.int .u64 a).wf = true) (w1 : (Lit.int .u64 b).wf = true) (_ : (Lit.int .i64 c).wf = true) (_ : (Lit.int .i64 e).wf = true) (_ : (Lit.int .i64 d).wf = true) (w : World) (hL : laidMetH Tryd.prog Rows.wantBeyondRow.laid w) :
    Calls Tryd.prog 7 #[.agg #[.int .u64 a, .int .u64 b], .agg #[.int .i64 c, .int .i64 e], .int .i64 d] w fun e w' => e = .returned (.bool true) ∧ Below w.heap.size w w' := by
  have ha : 0 ≤ a ∧ a ≤ 18446744073709551615 := by simpa [Lit.wf, IntKind.min, IntKind.max, IntKind.signed, IntKind.bits] using w0
  have hb : 0 ≤ b ∧ b ≤ 18446744073709551615 := by simpa [Lit.wf, IntKind.min, IntKind.max, IntKind.signed, IntKind.bits] using w1
  obtain ⟨x, rfl⟩ := Int.eq_ofNat_of_zero_le ha.1
  obtain ⟨y, rfl⟩ := Int.eq_ofNat_of_zero_le hb.1
  have := walk_f (mem x y) c e d w (tz_of_laid hL)
  rwa [← setV_mem (by omega) (by omega)] at this


end Go.Proofs.YtdcollehdhkngaaDoor.wantBeyond
