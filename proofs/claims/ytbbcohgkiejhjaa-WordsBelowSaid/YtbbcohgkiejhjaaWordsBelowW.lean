/- The walk of WordsBelow: it answers true for every input, and leaves all old blocks as they were. No condition. -/
import Derived.Test.YtbbcohgkiejhjaaRows
import Derived.Test.YtbbcohgkiejhjaaRowKit
import Derived.Test.YtbbcohgkiejhjaaSlicesEq
import Derived.Test.YtbbcohgkiejhjaaBlocks
import Derived.Test.YtbbcohgkiejhjaaWordsA
import Derived.WalkKit
import Derived.ProofKit
import Derived.OpenShut
import Derived.Deep.QuietTactic
import Derived.BigQuiet
import Derived.Lib.SmallJoins
import Derived.Lib.Hide
import Derived.WalkSpells
import Derived.WalkLawsBesides
import Derived.IntWalk
import Derived.Deep.WholeRow
import Derived.Laws.CopyOwn
import Derived.Deep.RegionHeld3
namespace Go.Proofs.Ytbbcohgkiejhjaa.wordsBelow
open Go.ChangeShapes Go.WideShapes Go.ChangeAt Go.RowKit Go.Joins
set_option linter.unusedSimpArgs false
set_option linter.unusedVariables false

theorem scale_lt {v d : Int} (hv : 0 ≤ v) (hv' : v ≤ 4294967295) (hd : 1 ≤ d) : v * d / 4294967296 < d := by
  apply Int.ediv_lt_of_lt_mul (by omega)
  have := Int.mul_le_mul_of_nonneg_right hv' (show 0 ≤ d by omega)
  omega
set_option maxHeartbeats 1000000 in
theorem walk_big (A : Option Addr) (c n : Nat) (a d : Int) (w : World) (hl : 1000 < n) (hc : n ≤ 9223372036854775807) :
    Calls Try.prog 8 #[.agg #[.slice A n c, .int .i64 a], .int .u32 d] w fun e w' => e = .returned (.bool true) ∧ Below w.heap.size w w' := by
  go_enter Try.func8, Try.ntmps8
  go_wp2_with fail
  go_ret
  exact ⟨rfl, (Below.refl _ _).alloc (Nat.le_refl _) _⟩
set_option maxRecDepth 100000 in
set_option maxHeartbeats 1000000 in
theorem walk_arg (A : Option Addr) (c : Nat) (zs : List Int) (a : Int) (w : World) (hr : RdI w .u32 A zs) (hl : zs.length ≤ 1000) :
    Calls Try.prog 8 #[.agg #[.slice A zs.length c, .int .i64 a], .int .u32 0] w fun e w' => e = .returned (.bool true) ∧ Below w.heap.size w w' := by
  have R := Lib.hid hr
  clear hr
  go_enter Try.func8, Try.ntmps8
  go_wp2_with fail
  refine (below_arg A zs.length c a _).mono ?_
  rintro e w1 ⟨rfl, hb1⟩
  obtain ⟨g1, hz, hb⟩ := one_blk hb1
  clear hb1
  obtain ⟨k0, k1, f0, f1⟩ := g1.two
  have G := Lib.hid g1
  clear g1
  go_wp2_with fail
  refine (same_any A A c c a zs _ (R.out.kept (hb.alloc hb.size _)) (R.out.kept (hb.alloc hb.size _)) (by omega)).mono ?_
  rintro e w2 ⟨rfl, hb2⟩
  go_wp2_with fail
  refine (walive_any _).mono ?_
  rintro e w3 ⟨rfl, hb3⟩
  go_wp2_with fail
  go_ret
  exact ⟨rfl, (((hb.alloc hb.size _).trans (hb2.mono (by have := hb.size; simp; omega)))).trans (hb3.mono (by have := hb.size; have := hb2.size; simp at this; omega))⟩
set_option maxRecDepth 100000 in
set_option maxHeartbeats 1000000 in
theorem walk_dry (A : Option Addr) (c : Nat) (zs : List Int) (a : Int) (w : World) (hr : RdI w .u32 A zs) (hl : zs.length ≤ 1000) (d : Int) (ha : -9223372036854775808 ≤ a) (ha' : a ≤ 9223372036854775807) (h : lf zs.length a = 0) (hd : 1 ≤ d) (hd' : d ≤ 4294967295) :
    Calls Try.prog 8 #[.agg #[.slice A zs.length c, .int .i64 a], .int .u32 d] w fun e w' => e = .returned (.bool true) ∧ Below w.heap.size w w' := by
  have R := Lib.hid hr
  have hlf := fun W => lleft_any A zs.length c a W (by omega) ha ha'
  rw [h] at hlf
  have HL := Lib.hid hlf
  have H := Lib.hid h
  clear hr hlf h
  have hz0 : (d == 0) = false := by rw [beq_eq_false_iff_ne]; omega
  go_enter Try.func8, Try.ntmps8
  go_wp2_with fail
  refine (below_dry A zs.length c a d _ (by omega) ha ha' H.out hd hd').mono ?_
  rintro e w1 ⟨rfl, hb1⟩
  obtain ⟨g1, hz, hb⟩ := one_blk hb1
  clear hb1
  obtain ⟨k0, k1, f0, f1⟩ := g1.two
  have G := Lib.hid g1
  clear g1
  go_wp2_with fail
  refine (HL.out _).mono ?_
  rintro e w2 ⟨rfl, hb2⟩
  obtain ⟨t1, hz2, hb3⟩ := one_blk hb2
  clear hb2
  have s1 := G.out.next hb3
  clear k0 k1 f0 f1
  obtain ⟨k0, k1, f0, f1⟩ := s1.two
  obtain ⟨l0, l1, e0, e1⟩ := t1.two
  have G2 := Lib.hid (And.intro s1 t1)
  have hbw2 : Below w.heap.size w w2 := hb.trans (hb3.mono hb.size)
  have hz3 : w.heap.size < w2.heap.size := by omega
  clear s1 t1 hb hb3
  go_wp2_with fail
  refine (same_any A A c c a zs _ (R.out.kept hbw2) (R.out.kept hbw2) (by omega)).mono ?_
  rintro e w3 ⟨rfl, hb4⟩
  go_wp2_with fail
  refine (walive_any _).mono ?_
  rintro e w4 ⟨rfl, hb5⟩
  go_wp2_with fail
  go_ret
  exact ⟨rfl, (hbw2.trans (hb4.mono (by omega))).trans (hb5.mono (by have := hb4.size; omega))⟩
set_option maxRecDepth 100000 in
set_option maxHeartbeats 1000000 in
theorem walk_some (b off c k : Nat) (zs : List Int) (v d : Int) (w : World) (hr : RdI w .u32 (some ⟨b, off, none⟩) zs) (hl : zs.length ≤ 1000) (hk : k < zs.length) (hc : w.cell? ⟨b, off + k, none⟩ = some (.int .u32 v)) (hv : 0 ≤ v) (hv' : v ≤ 4294967295) (hd : 1 ≤ d) (hd' : d ≤ 4294967295) :
    Calls Try.prog 8 #[.agg #[.slice (some ⟨b, off, none⟩) zs.length c, .int .i64 k], .int .u32 d] w fun e w' => e = .returned (.bool true) ∧ Below w.heap.size w w' := by
  have R := Lib.hid hr
  have hlf := fun W => lleft_any (some ⟨b, off, none⟩) zs.length c k W (by omega) (by omega) (by omega)
  rw [lf_in (by omega)] at hlf
  have HL := Lib.hid hlf
  have C := Lib.hid hc
  clear hr hlf hc
  have hz0 : (d == 0) = false := by rw [beq_eq_false_iff_ne]; omega
  have hz1 : (((zs.length : Int) - k) == 0) = false := by rw [beq_eq_false_iff_ne]; omega
  go_enter Try.func8, Try.ntmps8
  go_wp2_with fail
  refine (below_some b off zs.length c k v d _ (by omega) hk ((((Below.refl _ _).alloc (Nat.le_refl _) _).cell (lt_of_cell C.out)).trans C.out) hv hv' hd hd').mono ?_
  rintro e w1 ⟨rfl, hb1⟩
  obtain ⟨g1, hz, hb⟩ := one_blk hb1
  clear hb1
  obtain ⟨k0, k1, f0, f1⟩ := g1.two
  have G := Lib.hid g1
  clear g1
  go_wp2_with fail
  refine (HL.out _).mono ?_
  rintro e w2 ⟨rfl, hb2⟩
  obtain ⟨t1, hz2, hb3⟩ := one_blk hb2
  clear hb2
  have s1 := G.out.next hb3
  clear k0 k1 f0 f1
  obtain ⟨k0, k1, f0, f1⟩ := s1.two
  obtain ⟨l0, l1, e0, e1⟩ := t1.two
  have G2 := Lib.hid (And.intro s1 t1)
  have hbw2 : Below w.heap.size w w2 := hb.trans (hb3.mono hb.size)
  have hz3 : w.heap.size < w2.heap.size := by omega
  clear s1 t1 hb hb3
  have hcw : w2.cell? ⟨b, off + k, none⟩ = some (.int .u32 v) := (hbw2.cell (lt_of_cell C.out)).trans C.out
  obtain ⟨p1, p2⟩ := scale_bd hv hv' (show 0 ≤ d by omega) hd'
  have p3 : v * d / 4294967296 < d := scale_lt hv hv' hd
  go_wp2_with fail
  refine (equal_u32 (some ⟨b, off, none⟩) (some ⟨b, off, none⟩) c c zs _ (R.out.kept hbw2) (R.out.kept hbw2) (by omega)).mono ?_
  rintro e w3 ⟨rfl, q, rfl⟩
  go_wp2_with fail
  refine (walive_any _).mono ?_
  rintro e w4 ⟨rfl, hb5⟩
  go_wp2_with fail
  go_ret
  exact ⟨rfl, (below_drewN hbw2 q).trans (hb5.mono (by simpa using Nat.le_of_lt hz3))⟩
theorem walk {A : Option Addr} {c : Nat} {zs : List Int} {a d : Int} (hl : zs.length ≤ c) (hm : c ≤ maxLen) {w : World} (hr : RdI w .u32 A zs) (wa : (Lit.int .i64 a).wf = true) (wd : (Lit.int .u32 d).wf = true) :
    Calls Try.prog 8 #[.agg #[.slice A zs.length c, .int .i64 a], .int .u32 d] w fun e w' => e = .returned (.bool true) ∧ Below w.heap.size w w' := by
  obtain ⟨a1, a2⟩ := bounds_i64 wa
  obtain ⟨d1, d2⟩ := bounds_u32 wd
  unfold maxLen at hm
  by_cases h : zs.length ≤ 1000
  · by_cases h0 : d = 0
    · subst h0; exact walk_arg A c zs a w hr h
    · by_cases h1 : 0 ≤ a ∧ a < zs.length
      · obtain ⟨k, rfl⟩ := Int.eq_ofNat_of_zero_le h1.1
        obtain ⟨b, off, rfl, _, hc⟩ := rdI_row hr (by omega)
        obtain ⟨_, _, _, _, hw⟩ := hr k (by omega)
        obtain ⟨v1, v2⟩ := bounds_u32 hw
        exact walk_some b off c k zs _ d w hr h (by omega) (hc k (by omega)) v1 v2 (by omega) d2
      · exact walk_dry A c zs a w hr h d a1 a2 (by unfold lf; split <;> omega) (by omega) d2
  · exact walk_big A c zs.length a d w (by omega) (by omega)

end Go.Proofs.Ytbbcohgkiejhjaa.wordsBelow
