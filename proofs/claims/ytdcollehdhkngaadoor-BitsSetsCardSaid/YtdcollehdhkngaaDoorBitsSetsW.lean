/- The walk of BitsSets: it answers true for every input, and leaves all old blocks as they were. No condition but the laid tables, which are tied to the text. -/
import Derived.Test.YtdcollehdhkngaaDoorRows
import Derived.Test.YtdcollehdhkngaaDoorRowKit
import Derived.Test.YtdcollehdhkngaaDoorRowS
import Derived.Test.YtdcollehdhkngaaDoorBlocks
import Derived.Test.YtdcollehdhkngaaDoorBitsMath
import Derived.Test.YtdcollehdhkngaaDoorBitsA2
import Derived.Test.YtdcollehdhkngaaDoorBitsD
import Derived.Test.YtdcollehdhkngaaDoorBitsJ
import Derived.Test.YtdcollehdhkngaaDoorBitsK
import Derived.Test.YtdcollehdhkngaaDoorBitsL
import Derived.Test.YtdcollehdhkngaaDoorBitsN
import Derived.Test.YtdcollehdhkngaaDoorBitsP
import Derived.Test.YtdcollehdhkngaaDoorBitsR
import Derived.WalkKit
import Derived.ProofKit
import Derived.OpenShut
import Derived.Deep.QuietTactic
import Derived.BigQuiet
import Derived.Lib.SmallJoins
import Derived.Lib.Hide
import Derived.WalkSpells
import Derived.WalkLawsBesides
import Derived.Lib.TrailingZeros
import Derived.Lib.LaidTab
import Derived.Lib.LaidU8
import Derived.Deep.RegionHeld3
import Derived.IntWalk
namespace Go.Proofs.YtdcollehdhkngaaDoor.bitsSets
open Go.ChangeShapes Go.WideShapes Go.ChangeAt Go.RowKit Go.Joins
set_option linter.unusedSimpArgs false
set_option linter.unusedVariables false

theorem bz_gT : Tryd.prog.globalNamed "math/bits.deBruijn64tab" = some 0 := by kernel_rfl
theorem bz_gTType : (Tryd.prog.globals[0]?).map (·.type) = some 111 := by kernel_rfl
theorem tz_of_laid {w : World} (h0 : laidMetH Tryd.prog Rows.bitsSetsRow.laid w) : TzC w := by
  have h : laidMet Tryd.prog Rows.bitsSetsRow.laid w := h0
  obtain ⟨g', t', cs, fuel, p, hg', ht', hvar, hd⟩ := Lib.laidMet.reads h (.head _)
  obtain rfl := Option.some.inj (bz_gT.symm.trans hg')
  obtain rfl := Option.some.inj (bz_gTType.symm.trans ht')
  have e := Lib.cells_of_tab (zs := Lib.deBruijn64tab.map Int.ofNat) Tryd.underlying111 Tryd.underlying5 (by kernel_rfl) (by kernel_rfl) hd
  unfold World.var? at hvar
  rw [bz_gT] at hvar
  simp only [Option.bind_some] at hvar
  split at hvar
  · rename_i cs' t fr hg
    cases hvar
    show w.cell? _ = _
    rw [cell_of_row w _ 63 cs t fr hg, ← Array.getElem?_toList, e]
    rfl
  · cases hvar
theorem both0 (F G : Nat → Bool) : setV (bothF F G 0) = setV fun j => F j && G j := setV_congr fun n _ => by simp [bothF]
theorem both1 (F G : Nat → Bool) : setV (bothF F G 1) = setV fun j => F j || G j := setV_congr fun n _ => by simp [bothF]
theorem both2 (F G : Nat → Bool) : setV (bothF F G 2) = setV fun j => F j && !G j := setV_congr fun n _ => by simp [bothF]
set_option maxRecDepth 100000 in
set_option maxHeartbeats 2000000 in
theorem walk_f (F G : Nat → Bool) (w : World) (hT : TzC w) :
    Calls Tryd.prog 4 #[setV F, setV G] w fun e w' => e = .returned (.bool true) ∧ Below w.heap.size w w' := by
  have HT := Lib.hid hT
  have PA := and_set F G
  have PO := or_set F G
  have PS := sub_set F G
  have DA := both_any F G 0
  have DO := both_any F G 1
  have DS := both_any F G 2
  simp only [both0, both1, both2] at DA DO DS
  unfold setV at PA PO PS DA DO DS ⊢
  obtain ⟨x, hX⟩ : ∃ x, wordX F = x := ⟨_, rfl⟩
  obtain ⟨y, hY⟩ : ∃ y, wordY F = y := ⟨_, rfl⟩
  obtain ⟨x', hX'⟩ : ∃ x, wordX G = x := ⟨_, rfl⟩
  obtain ⟨y', hY'⟩ : ∃ y, wordY G = y := ⟨_, rfl⟩
  obtain ⟨p0, hp0⟩ : ∃ x, wordX (fun j => F j && G j) = x := ⟨_, rfl⟩
  obtain ⟨p1, hp1⟩ : ∃ x, wordY (fun j => F j && G j) = x := ⟨_, rfl⟩
  obtain ⟨q0, hq0⟩ : ∃ x, wordX (fun j => F j || G j) = x := ⟨_, rfl⟩
  obtain ⟨q1, hq1⟩ : ∃ x, wordY (fun j => F j || G j) = x := ⟨_, rfl⟩
  obtain ⟨r0, hr0⟩ : ∃ x, wordX (fun j => F j && !G j) = x := ⟨_, rfl⟩
  obtain ⟨r1, hr1⟩ : ∃ x, wordY (fun j => F j && !G j) = x := ⟨_, rfl⟩
  rw [hX, hY, hX', hY', hp0, hp1] at PA DA
  rw [hX, hY, hX', hY', hq0, hq1] at PO DO
  rw [hX, hY, hX', hY', hr0, hr1] at PS DS
  rw [hX, hY, hX', hY']
  replace PA := Lib.hid PA
  replace PO := Lib.hid PO
  replace PS := Lib.hid PS
  replace DA := Lib.hid DA
  replace DO := Lib.hid DO
  replace DS := Lib.hid DS
  have EQ0 := set_same p0 p1
  have EQ1 := set_same q0 q1
  have EQ2 := set_same r0 r1
  clear hX hY hX' hY' hp0 hp1 hq0 hq1 hr0 hr1
  go_enter Tryd.func4, Tryd.ntmps4
  go_wp2_with fail
  obtain ⟨B1, B2, _, BE⟩ := two_blk (w := w) (Below.refl _ ((w.alloc (.cells #[(.int .u64 x : Value), .int .u64 y] 24)).alloc (.cells #[(.int .u64 x' : Value), .int .u64 y'] 24)))
  obtain ⟨V, hV⟩ : ∃ V, (w.alloc (.cells #[(.int .u64 x : Value), .int .u64 y] 24)).alloc (.cells #[(.int .u64 x' : Value), .int .u64 y'] 24) = V := ⟨_, rfl⟩
  rw [hV] at B1 B2 BE ⊢
  obtain ⟨c0, c1, _, _⟩ := B1.two
  obtain ⟨d0, d1, _, _⟩ := B2.two
  have BEh := Lib.hid BE
  clear hV B1 B2 BE
  go_region_held3 (fun W => W.cell? ⟨w.heap.size, 0, none⟩ = some (.int .u64 x) ∧ W.cell? ⟨w.heap.size, 1, none⟩ = some (.int .u64 y) ∧ W.cell? ⟨w.heap.size + 1, 0, none⟩ = some (.int .u64 x') ∧ W.cell? ⟨w.heap.size + 1, 1, none⟩ = some (.int .u64 y'))
    (go_keep)
    (first
      | (go_at_call 21; refine (PA.out (V.drew)).mono ?_; rintro e v1 ⟨rfl, hb⟩; have nc00 := Lib.hid (bkeep (w := V.drew) hb c0); have nc10 := Lib.hid (bkeep (w := V.drew) hb c1); have nd00 := Lib.hid (bkeep (w := V.drew) hb d0); have nd10 := Lib.hid (bkeep (w := V.drew) hb d1); clear c0 c1 d0 d1; have c0 := nc00.out; have c1 := nc10.out; have d0 := nd00.out; have d1 := nd10.out; have BEh1 := Lib.hid ((BEh.out.drew).trans (hb.mono (BEh.out.drew).size)); clear hb)
      | (go_at_call_of 11 (Value.int IntKind.i64 0); refine (DA.out (v1)).mono ?_; rintro e v2 ⟨rfl, hb⟩; have nc01 := Lib.hid (bkeep (w := v1) hb c0); have nc11 := Lib.hid (bkeep (w := v1) hb c1); have nd01 := Lib.hid (bkeep (w := v1) hb d0); have nd11 := Lib.hid (bkeep (w := v1) hb d1); clear c0 c1 d0 d1; have c0 := nc01.out; have c1 := nc11.out; have d0 := nd01.out; have d1 := nd11.out; have BEh2 := Lib.hid (BEh1.out.trans (hb.mono BEh1.out.size)); clear hb)
      | (go_at_call 22; refine (PO.out (v2)).mono ?_; rintro e v3 ⟨rfl, hb⟩; have nc02 := Lib.hid (bkeep (w := v2) hb c0); have nc12 := Lib.hid (bkeep (w := v2) hb c1); have nd02 := Lib.hid (bkeep (w := v2) hb d0); have nd12 := Lib.hid (bkeep (w := v2) hb d1); clear c0 c1 d0 d1; have c0 := nc02.out; have c1 := nc12.out; have d0 := nd02.out; have d1 := nd12.out; have BEh3 := Lib.hid (BEh2.out.trans (hb.mono BEh2.out.size)); clear hb)
      | (go_at_call_of 11 (Value.int IntKind.i64 1); refine (DO.out (v3)).mono ?_; rintro e v4 ⟨rfl, hb⟩; have nc03 := Lib.hid (bkeep (w := v3) hb c0); have nc13 := Lib.hid (bkeep (w := v3) hb c1); have nd03 := Lib.hid (bkeep (w := v3) hb d0); have nd13 := Lib.hid (bkeep (w := v3) hb d1); clear c0 c1 d0 d1; have c0 := nc03.out; have c1 := nc13.out; have d0 := nd03.out; have d1 := nd13.out; have BEh4 := Lib.hid (BEh3.out.trans (hb.mono BEh3.out.size)); clear hb)
      | (go_at_call 23; refine (PS.out (v4)).mono ?_; rintro e v5 ⟨rfl, hb⟩; have nc04 := Lib.hid (bkeep (w := v4) hb c0); have nc14 := Lib.hid (bkeep (w := v4) hb c1); have nd04 := Lib.hid (bkeep (w := v4) hb d0); have nd14 := Lib.hid (bkeep (w := v4) hb d1); clear c0 c1 d0 d1; have c0 := nc04.out; have c1 := nc14.out; have d0 := nd04.out; have d1 := nd14.out; have BEh5 := Lib.hid (BEh4.out.trans (hb.mono BEh4.out.size)); clear hb)
      | (go_at_call_of 11 (Value.int IntKind.i64 2); refine (DS.out (v5)).mono ?_; rintro e v6 ⟨rfl, hb⟩; have nc05 := Lib.hid (bkeep (w := v5) hb c0); have nc15 := Lib.hid (bkeep (w := v5) hb c1); have nd05 := Lib.hid (bkeep (w := v5) hb d0); have nd15 := Lib.hid (bkeep (w := v5) hb d1); clear c0 c1 d0 d1; have c0 := nc05.out; have c1 := nc15.out; have d0 := nd05.out; have d1 := nd15.out; have BEh6 := Lib.hid (BEh5.out.trans (hb.mono BEh5.out.size)); clear hb)
      | (go_at_call 20; refine (balive (v6) (HT.out.kept BEh6.out)).mono ?_; rintro e v7 ⟨rfl, hb⟩; have nc06 := Lib.hid (bkeep (w := v6) hb c0); have nc16 := Lib.hid (bkeep (w := v6) hb c1); have nd06 := Lib.hid (bkeep (w := v6) hb d0); have nd16 := Lib.hid (bkeep (w := v6) hb d1); clear c0 c1 d0 d1; have c0 := nc06.out; have c1 := nc16.out; have d0 := nd06.out; have d1 := nd16.out; have BEh7 := Lib.hid (BEh6.out.trans (hb.mono BEh6.out.size)); clear hb))
  go_wp2_with fail
  go_ret
  exact ⟨rfl, BEh7.out⟩
theorem walk {a b c d : Int} (w0 : (Lit.int .u64 a).wf = true) (w1 : (Lit.int .u64 b).wf = true) (w2 : (Lit.int .u64 c).wf = true) (w3 : (Lit.int .u64 d).wf = true) (w : World) (hL : laidMetH Tryd.prog Rows.bitsSetsRow.laid w) :
    Calls Tryd.prog 4 #[.agg #[.int .u64 a, .int .u64 b], .agg #[.int .u64 c, .int .u64 d]] w fun e w' => e = .returned (.bool true) ∧ Below w.heap.size w w' := by
  have ha : 0 ≤ a ∧ a ≤ 18446744073709551615 := by simpa [Lit.wf, IntKind.min, IntKind.max, IntKind.signed, IntKind.bits] using w0
  have hb : 0 ≤ b ∧ b ≤ 18446744073709551615 := by simpa [Lit.wf, IntKind.min, IntKind.max, IntKind.signed, IntKind.bits] using w1
  have hc : 0 ≤ c ∧ c ≤ 18446744073709551615 := by simpa [Lit.wf, IntKind.min, IntKind.max, IntKind.signed, IntKind.bits] using w2
  have hd : 0 ≤ d ∧ d ≤ 18446744073709551615 := by simpa [Lit.wf, IntKind.min, IntKind.max, IntKind.signed, IntKind.bits] using w3
  obtain ⟨x, rfl⟩ := Int.eq_ofNat_of_zero_le ha.1
  obtain ⟨y, rfl⟩ := Int.eq_ofNat_of_zero_le hb.1
  obtain ⟨x', rfl⟩ := Int.eq_ofNat_of_zero_le hc.1
  obtain ⟨y', rfl⟩ := Int.eq_ofNat_of_zero_le hd.1
  have := walk_f (mem x y) (mem x' y') w (tz_of_laid hL)
  rwa [← setV_mem (by omega) (by omega), ← setV_mem (by omega) (by omega)] at this


end Go.Proofs.YtdcollehdhkngaaDoor.bitsSets
