/- The walk of LexerScans: it answers true for every input, and leaves all old blocks as they were. No condition. -/
import Derived.Test.YthchgjjnlnadnaaRows
import Derived.Test.YthchgjjnlnadnaaRowKit
import Derived.Test.YthchgjjnlnadnaaBlocks
import Derived.Test.YthchgjjnlnadnaaBL
import Derived.Test.YthchgjjnlnadnaaCut
import Derived.Test.YthchgjjnlnadnaaLexM
import Derived.Test.YthchgjjnlnadnaaLexA
import Derived.Test.YthchgjjnlnadnaaLexB
import Derived.Test.YthchgjjnlnadnaaLexC
import Derived.Test.YthchgjjnlnadnaaLexD
import Derived.Test.YthchgjjnlnadnaaLexE
import Derived.Test.YthchgjjnlnadnaaLexF
import Derived.Test.YthchgjjnlnadnaaLexG
import Derived.Test.YthchgjjnlnadnaaLexH
import Derived.Test.YthchgjjnlnadnaaLexI
import Derived.Test.YthchgjjnlnadnaaLexJ
import Derived.WalkKit
import Derived.ProofKit
import Derived.OpenShut
import Derived.Deep.QuietTactic
import Derived.BigQuiet
import Derived.Lib.SmallJoins
import Derived.Lib.Hide
import Derived.WalkSpells
import Derived.WalkLawsBesides
import Derived.Deep.LoopGhost
import Derived.BigRegion
import Derived.OwnWalk
import Derived.Laws.OwnMore
import Derived.Laws.IdiomStrings
import Derived.IntWalk
namespace Go.Proofs.Ythchgjjnlnadnaa.lexerScans
open Go.ChangeShapes Go.WideShapes Go.ChangeAt Go.RowKit Go.Joins
set_option linter.unusedSimpArgs false
set_option linter.unusedVariables false

theorem bL_of (s : ByteArray) : bL s.data.toList = s := by unfold bL; simp
def SnB (p0 p1 p2 : Int) (L : List Tk) (n B : Nat) (w' : World) (e : Ending) : Prop := ∃ v, e = .returned (.tuple #[v, .agg #[.int .i64 p0, .int .i64 p1, .int .i64 p2]]) ∧ OwT B w' v L ∧ L.length ≤ n
theorem snb_of (r : ScR) (n : Nat) : ∃ p0 p1 p2 L, ∀ B w' e, ScV r n B w' e → SnB p0 p1 p2 L n B w' e := by
  cases r with
  | ok L => exact ⟨0, 0, 0, L, fun B w' e h => h⟩
  | bad er l c => exact ⟨er, l, c, [], fun B w' e h => ⟨_, h.1, owT_nil _ _, Nat.zero_le _⟩⟩
set_option maxRecDepth 100000 in
set_option maxHeartbeats 8000000 in
theorem walk {s : ByteArray} (_ : s.size ≤ maxLen) (w : World) : Calls Try.prog 3 #[.string s] w fun e w' => e = .returned (.bool true) ∧ Below w.heap.size w w' := by
  by_cases h1 : 3000 < s.size
  · have h1i : (3000 : Int) < (s.size : Int) := by omega
    go_enter Try.func3, Try.ntmps3
    go_wp2_with fail
    go_ret
    exact ⟨rfl, Below.refl _ _⟩
  have h1i : ¬ (3000 : Int) < (s.size : Int) := by omega
  have hl : s.data.toList.length ≤ 65536 := by show s.size ≤ _; omega
  obtain ⟨p0, p1, p2, L, hr⟩ := snb_of (scL s.data.toList 1 1 []) (s.data.toList.length + 1)
  have K1 := Lib.hid (fun W => scan_any s.data.toList W hl)
  have K2 := Lib.hid (fun W => dscan_any s.data.toList W hl)
  rw [bL_of] at K1 K2
  have HR := Lib.hid hr
  have HL : Hid (s.data.toList.length + 1 ≤ 100000) := Lib.hid (by omega)
  clear hr hl h1
  go_enter Try.func3, Try.ntmps3
  go_wp2_with fail
  refine (K1.out w).mono ?_
  rintro e V1 ⟨hv, hb⟩
  obtain ⟨v1, rfl, ho1, hn1⟩ := HR.out _ _ _ hv
  have B1 := Lib.hid (Blk.new V1 #[.int .i64 p0, .int .i64 p1, .int .i64 p2] 25)
  have E1 := Lib.hid (hb.alloc hb.size (.cells #[.int .i64 p0, .int .i64 p1, .int .i64 p2] 25))
  have O1 := Lib.hid (ho1.next ((Below.refl V1.heap.size V1).alloc (Nat.le_refl _) (.cells #[.int .i64 p0, .int .i64 p1, .int .i64 p2] 25)))
  have HN := Lib.hid hn1
  clear hv hb ho1 hn1
  go_wp2_with fail
  obtain ⟨V2, hV2⟩ : ∃ V2, V1.alloc (.cells #[.int .i64 p0, .int .i64 p1, .int .i64 p2] 25) = V2 := ⟨_, rfl⟩
  rw [hV2] at B1 E1 O1 ⊢
  have HS : Hid (V1.heap.size < V2.heap.size) := Lib.hid (by rw [← hV2]; simp)
  clear hV2
  refine (K2.out V2).mono ?_
  rintro e V3 ⟨hv, hb⟩
  obtain ⟨v2, rfl, ho2, _⟩ := HR.out _ _ _ hv
  have B2 := Lib.hid ((B1.out.next hb).alloc (.cells #[.int .i64 p0, .int .i64 p1, .int .i64 p2] 25))
  have B3 := Lib.hid (Blk.new V3 #[.int .i64 p0, .int .i64 p1, .int .i64 p2] 25)
  have E2 := Lib.hid ((E1.out.trans (hb.mono E1.out.size)).alloc (Nat.le_trans E1.out.size hb.size) (.cells #[.int .i64 p0, .int .i64 p1, .int .i64 p2] 25))
  have O2 := Lib.hid ((O1.out.next hb).next ((Below.refl V3.heap.size V3).alloc (Nat.le_refl _) (.cells #[.int .i64 p0, .int .i64 p1, .int .i64 p2] 25)))
  have O3 := Lib.hid (ho2.next ((Below.refl V3.heap.size V3).alloc (Nat.le_refl _) (.cells #[.int .i64 p0, .int .i64 p1, .int .i64 p2] 25)))
  clear hv hb ho2 K1 K2 HR
  go_wp2_with fail
  obtain ⟨V4, hV4⟩ : ∃ V4, V3.alloc (.cells #[.int .i64 p0, .int .i64 p1, .int .i64 p2] 25) = V4 := ⟨_, rfl⟩
  rw [hV4] at B2 B3 E2 O2 O3 ⊢
  clear hV4
  refine (toks_eq _ _ v1 v2 L V4 O2.out O3.out (Nat.le_trans HN.out HL.out)).mono ?_
  rintro e V5 ⟨rfl, q, rfl⟩
  have C1 := Lib.hid (B2.out.draw q); have C2 := Lib.hid (B3.out.draw q)
  have E3 := Lib.hid (below_drewN E2.out q)
  obtain ⟨V5, hV5⟩ : ∃ V5, V4.drewN q = V5 := ⟨_, rfl⟩
  rw [hV5] at C1 C2 E3 ⊢
  clear hV5 B1 B2 B3 O1 O2 O3 E1 E2
  have c0 := C1.out.cell 0
  have c1 := C1.out.cell 1
  have c2 := C1.out.cell 2
  have d0 := C2.out.cell 0
  have d1 := C2.out.cell 1
  have d2 := C2.out.cell 2

  go_wp2_with fail
  refine (alive19 _).mono ?_
  rintro e V6 ⟨rfl, hb⟩
  have E4 := Lib.hid (E3.out.trans (hb.mono E3.out.size))
  clear hb
  go_wp2_with fail
  go_ret
  exact ⟨rfl, E4.out⟩

end Go.Proofs.Ythchgjjnlnadnaa.lexerScans
