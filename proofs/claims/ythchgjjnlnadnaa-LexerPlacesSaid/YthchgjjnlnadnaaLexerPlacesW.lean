/- The walk of LexerPlaces: it answers true for every input, and leaves all old blocks as they were. No condition. -/
import Derived.Test.YthchgjjnlnadnaaRows
import Derived.Test.YthchgjjnlnadnaaRowKit
import Derived.Test.YthchgjjnlnadnaaBlocks
import Derived.Test.YthchgjjnlnadnaaBL
import Derived.Test.YthchgjjnlnadnaaCut
import Derived.Test.YthchgjjnlnadnaaRowM
import Derived.Test.YthchgjjnlnadnaaLexM
import Derived.Test.YthchgjjnlnadnaaLexA
import Derived.Test.YthchgjjnlnadnaaLexB
import Derived.Test.YthchgjjnlnadnaaLexC
import Derived.Test.YthchgjjnlnadnaaLexD
import Derived.Test.YthchgjjnlnadnaaLexE
import Derived.Test.YthchgjjnlnadnaaLexF
import Derived.Test.YthchgjjnlnadnaaLexG
import Derived.Test.YthchgjjnlnadnaaLexH
import Derived.Test.YthchgjjnlnadnaaLexJ
import Derived.Test.YthchgjjnlnadnaaLexP
import Derived.WalkKit
import Derived.ProofKit
import Derived.OpenShut
import Derived.Deep.QuietTactic
import Derived.BigQuiet
import Derived.Lib.SmallJoins
import Derived.Lib.Hide
import Derived.WalkSpells
import Derived.WalkLawsBesides
import Derived.Deep.LoopGhost
import Derived.BigRegion
import Derived.OwnWalk
import Derived.Laws.CopyOwn
import Derived.Laws.MakeOwn
import Derived.Laws.OwnMore
import Derived.Laws.IdiomStrings
import Derived.IntWalk
namespace Go.Proofs.Ythchgjjnlnadnaa.lexerPlaces
open Go.ChangeShapes Go.WideShapes Go.ChangeAt Go.RowKit Go.Joins
set_option linter.unusedSimpArgs false
set_option linter.unusedVariables false

theorem bL_of (s : ByteArray) : bL s.data.toList = s := by unfold bL; simp
theorem u8Info : (Try.prog.info? 5).map (fun i => (i.zero, i.size, i.bytes)) = some (some (.int .u8 0), 1, 1) := by kernel_rfl
/-- so many noughts as bytes, and as a text -/
theorem noughts (w : World) : ∃ (C : Array Value) (z : ByteArray), z.size = 65537 ∧ (Instr.makeSlice 36 (.int .i64 65537) (.int .i64 65537)).run Try.prog w = .ok (.slice (some ⟨w.heap.size, 0, none⟩) 65537 65537) (w.alloc (.cells C 5)) ∧
    ∀ V : World, V.heap[w.heap.size]? = some (.cells C 5) → (convert 36 9 (.slice (some ⟨w.heap.size, 0, none⟩) 65537 65537)).run Try.prog V = .ok (.string z) V := by
  obtain ⟨i0, hi, hz0, hz1, hz2⟩ := info_parts u8Info
  obtain ⟨n, hn⟩ : ∃ n : Nat, n = 65537 := ⟨_, rfl⟩
  have hni : (65537 : Int) = (n : Int) := by omega
  have hr := run_makeSlice (P := Try.prog) w 36 5 i0 (.int .u8 0) Try.underlying36 hi hz0 .i64 .i64 (n : Int) (n : Int) (by omega) (Int.le_refl _) (by rw [hz1]; omega) (by rw [hz2]; omega) (by omega)
  rw [hz1, Int.toNat_natCast, Nat.mul_one] at hr
  refine ⟨madeCells (Value.int .u8 0).cells n, ⟨(List.replicate n (0 : UInt8)).toArray⟩, ?_, ?_, ?_⟩
  · show (List.replicate n (0 : UInt8)).toArray.size = _
    rw [List.size_toArray, List.length_replicate, hn]
  · rw [hni, ← hn]; exact hr
  · intro V hV
    have hb := run_convert_bytes_back (P := Try.prog) V 36 9 5 ⟨w.heap.size, 0, none⟩ n (List.replicate n 0) Try.underlying36 Try.underlying5 Try.underlying9 (fun j hj => by
      have h1 := newsM hV j (.int .u8 0) (by
        show (madeCells #[Value.int .u8 0] n).toList[j]? = _
        rw [toList_madeCells_one]
        have hj' : j < n := by simpa using hj
        simp [hj'])
      rw [h1]; simp)
    rw [List.length_replicate] at hb
    rw [← hn]; exact hb
set_option maxRecDepth 100000 in
set_option maxHeartbeats 16000000 in
theorem walk {s : ByteArray} (_ : s.size ≤ maxLen) {a c : Int} (_ : (Lit.int .i64 a).wf = true) (hc : (Lit.int .u8 c).wf = true) (w : World) : Calls Try.prog 4 #[.string s, .int .i64 a, .int .u8 c] w fun e w' => e = .returned (.bool true) ∧ Below w.heap.size w w' := by
  by_cases h1 : 3000 < s.size
  · have h1i : (3000 : Int) < (s.size : Int) := by omega
    go_enter Try.func4, Try.ntmps4
    go_wp2_with fail
    go_ret
    exact ⟨rfl, Below.refl _ _⟩
  have h1i : ¬ (3000 : Int) < (s.size : Int) := by omega
  have hl : s.data.toList.length ≤ 100000 := by show s.size ≤ _; omega
  have hcb : 0 ≤ c := by
    have e : (decide (IntKind.u8.min ≤ c) && decide (c ≤ IntKind.u8.max)) = true := hc
    rw [Bool.and_eq_true] at e
    have := of_decide_eq_true e.1
    have e2 : IntKind.u8.min = 0 := by decide
    omega
  obtain ⟨y, rfl⟩ : ∃ y : Nat, c = y := ⟨c.toNat, by omega⟩
  have K1 := Lib.hid (fun W => place_any s.data.toList a W hl)
  have K2 := Lib.hid (fun W => dplace_any s.data.toList a W hl)
  rw [bL_of] at K1 K2
  obtain ⟨x1, hx1⟩ : ∃ x : Int, ((plc (s.data.toList.take (clamp s.data.toList.length a))).1 : Int) = x := ⟨_, rfl⟩
  obtain ⟨x2, hx2⟩ : ∃ x : Int, ((plc (s.data.toList.take (clamp s.data.toList.length a))).2 : Int) = x := ⟨_, rfl⟩
  rw [hx1, hx2] at K1 K2
  obtain ⟨C, z, hz, hmk, hcv⟩ := noughts w
  have HCV := Lib.hid (hcv _ (Blk.new w C 5))
  have KZ := Lib.hid (fun W => scan_big z W (by omega))
  have E1 := Lib.hid ((Below.refl w.heap.size w).alloc (Nat.le_refl _) (.cells C 5))
  clear hc hcb hx1 hx2 hl h1 hcv hz
  have hcv := HCV.out
  go_enter Try.func4, Try.ntmps4
  go_wp2_with fail
  refine (K1.out w).mono ?_
  rintro e w1 ⟨rfl, rfl⟩
  go_wp2_with fail
  refine (K2.out _).mono ?_
  rintro e w1 ⟨rfl, rfl⟩
  go_wp2_with fail
  refine (KZ.out _).mono ?_
  rintro e V1 ⟨rfl, hb⟩
  have E2 := Lib.hid (E1.out.trans (hb.mono E1.out.size))
  have E4 := Lib.hid (E2.out.alloc E2.out.size (.cells #[.int .i64 21, .int .i64 1, .int .i64 1] 25))
  have B4 := Blk.new V1 #[.int .i64 21, .int .i64 1, .int .i64 1] 25
  clear hb hmk hcv HCV E1 K1 K2 KZ
  have q0 := B4.cell 0
  have q1 := B4.cell 1
  have q2 := B4.cell 2
  clear B4
  by_cases h0 : y = 32
  · subst h0
    go_wp2_with fail
    refine (letter_any 32 _).mono ?_
    rintro e w9 ⟨rfl, rfl⟩
    rw [show decide (97 ≤ 32 ∧ 32 ≤ 122) = false by decide]
    go_wp2_with fail
    refine (digit_any 32 _).mono ?_
    rintro e w9 ⟨rfl, rfl⟩
    rw [show decide (48 ≤ 32 ∧ 32 ≤ 57) = false by decide]
    go_wp2_with fail
    refine (blk_any 32 _).mono ?_
    rintro e w9 ⟨rfl, rfl⟩
    rw [show decide (32 = 32 ∨ 32 = 9 ∨ 32 = 13) = true by decide]
    go_wp2_with fail
    refine (alive19 _).mono ?_
    rintro e w9 ⟨rfl, hb9⟩
    have E9 := Lib.hid (E4.out.trans (hb9.mono E4.out.size))
    clear hb9
    go_wp2_with fail
    go_ret
    exact ⟨rfl, E9.out⟩
  by_cases h639 : y = 9
  · subst h639
    go_wp2_with fail
    refine (letter_any 9 _).mono ?_
    rintro e w9 ⟨rfl, rfl⟩
    rw [show decide (97 ≤ 9 ∧ 9 ≤ 122) = false by decide]
    go_wp2_with fail
    refine (digit_any 9 _).mono ?_
    rintro e w9 ⟨rfl, rfl⟩
    rw [show decide (48 ≤ 9 ∧ 9 ≤ 57) = false by decide]
    go_wp2_with fail
    refine (blk_any 9 _).mono ?_
    rintro e w9 ⟨rfl, rfl⟩
    rw [show decide (9 = 32 ∨ 9 = 9 ∨ 9 = 13) = true by decide]
    go_wp2_with fail
    refine (alive19 _).mono ?_
    rintro e w9 ⟨rfl, hb9⟩
    have E9 := Lib.hid (E4.out.trans (hb9.mono E4.out.size))
    clear hb9
    go_wp2_with fail
    go_ret
    exact ⟨rfl, E9.out⟩
  by_cases h1271 : y = 13
  · subst h1271
    go_wp2_with fail
    refine (letter_any 13 _).mono ?_
    rintro e w9 ⟨rfl, rfl⟩
    rw [show decide (97 ≤ 13 ∧ 13 ≤ 122) = false by decide]
    go_wp2_with fail
    refine (digit_any 13 _).mono ?_
    rintro e w9 ⟨rfl, rfl⟩
    rw [show decide (48 ≤ 13 ∧ 13 ≤ 57) = false by decide]
    go_wp2_with fail
    refine (blk_any 13 _).mono ?_
    rintro e w9 ⟨rfl, rfl⟩
    rw [show decide (13 = 32 ∨ 13 = 9 ∨ 13 = 13) = true by decide]
    go_wp2_with fail
    refine (alive19 _).mono ?_
    rintro e w9 ⟨rfl, hb9⟩
    have E9 := Lib.hid (E4.out.trans (hb9.mono E4.out.size))
    clear hb9
    go_wp2_with fail
    go_ret
    exact ⟨rfl, E9.out⟩
  by_cases h1916 : y < 48
  · have i1 : ¬ (97 : Int) ≤ (y : Int) := by omega
    have di1 : decide ((97 : Int) ≤ (y : Int)) = false := by rw [decide_eq_false_iff_not]; exact i1
    have i2 : ¬ (48 : Int) ≤ (y : Int) := by omega
    have di2 : decide ((48 : Int) ≤ (y : Int)) = false := by rw [decide_eq_false_iff_not]; exact i2
    have q32 : ((y : Int) == 32) = false := by rw [beq_eq_false_iff_ne]; omega
    have q9 : ((y : Int) == 9) = false := by rw [beq_eq_false_iff_ne]; omega
    have q13 : ((y : Int) == 13) = false := by rw [beq_eq_false_iff_ne]; omega
    go_wp2_with fail
    refine (letter_any y _).mono ?_
    rintro e w9 ⟨rfl, rfl⟩
    rw [show decide (97 ≤ y ∧ y ≤ 122) = false by rw [decide_eq_false_iff_not]; omega]
    go_wp2_with fail
    refine (digit_any y _).mono ?_
    rintro e w9 ⟨rfl, rfl⟩
    rw [show decide (48 ≤ y ∧ y ≤ 57) = false by rw [decide_eq_false_iff_not]; omega]
    go_wp2_with fail
    refine (blk_any y _).mono ?_
    rintro e w9 ⟨rfl, rfl⟩
    rw [show decide (y = 32 ∨ y = 9 ∨ y = 13) = false by rw [decide_eq_false_iff_not]; omega]
    go_wp2_with fail
    refine (alive19 _).mono ?_
    rintro e w9 ⟨rfl, hb9⟩
    have E9 := Lib.hid (E4.out.trans (hb9.mono E4.out.size))
    clear hb9
    go_wp2_with fail
    go_ret
    exact ⟨rfl, E9.out⟩
  by_cases h3148 : y ≤ 57
  · have i1 : ¬ (97 : Int) ≤ (y : Int) := by omega
    have di1 : decide ((97 : Int) ≤ (y : Int)) = false := by rw [decide_eq_false_iff_not]; exact i1
    have i2 : (48 : Int) ≤ (y : Int) := by omega
    have di2 : decide ((48 : Int) ≤ (y : Int)) = true := by rw [decide_eq_true_iff]; exact i2
    have i3 : (y : Int) ≤ 57 := by omega
    have di3 : decide ((y : Int) ≤ 57) = true := by rw [decide_eq_true_iff]; exact i3
    have q32 : ((y : Int) == 32) = false := by rw [beq_eq_false_iff_ne]; omega
    have q9 : ((y : Int) == 9) = false := by rw [beq_eq_false_iff_ne]; omega
    have q13 : ((y : Int) == 13) = false := by rw [beq_eq_false_iff_ne]; omega
    go_wp2_with fail
    refine (letter_any y _).mono ?_
    rintro e w9 ⟨rfl, rfl⟩
    rw [show decide (97 ≤ y ∧ y ≤ 122) = false by rw [decide_eq_false_iff_not]; omega]
    go_wp2_with fail
    refine (digit_any y _).mono ?_
    rintro e w9 ⟨rfl, rfl⟩
    rw [show decide (48 ≤ y ∧ y ≤ 57) = true by rw [decide_eq_true_iff]; omega]
    go_wp2_with fail
    refine (blk_any y _).mono ?_
    rintro e w9 ⟨rfl, rfl⟩
    rw [show decide (y = 32 ∨ y = 9 ∨ y = 13) = false by rw [decide_eq_false_iff_not]; omega]
    go_wp2_with fail
    refine (alive19 _).mono ?_
    rintro e w9 ⟨rfl, hb9⟩
    have E9 := Lib.hid (E4.out.trans (hb9.mono E4.out.size))
    clear hb9
    go_wp2_with fail
    go_ret
    exact ⟨rfl, E9.out⟩
  by_cases h4489 : y < 97
  · have i1 : ¬ (97 : Int) ≤ (y : Int) := by omega
    have di1 : decide ((97 : Int) ≤ (y : Int)) = false := by rw [decide_eq_false_iff_not]; exact i1
    have i2 : (48 : Int) ≤ (y : Int) := by omega
    have di2 : decide ((48 : Int) ≤ (y : Int)) = true := by rw [decide_eq_true_iff]; exact i2
    have i3 : ¬ (y : Int) ≤ 57 := by omega
    have di3 : decide ((y : Int) ≤ 57) = false := by rw [decide_eq_false_iff_not]; exact i3
    have q32 : ((y : Int) == 32) = false := by rw [beq_eq_false_iff_ne]; omega
    have q9 : ((y : Int) == 9) = false := by rw [beq_eq_false_iff_ne]; omega
    have q13 : ((y : Int) == 13) = false := by rw [beq_eq_false_iff_ne]; omega
    go_wp2_with fail
    refine (letter_any y _).mono ?_
    rintro e w9 ⟨rfl, rfl⟩
    rw [show decide (97 ≤ y ∧ y ≤ 122) = false by rw [decide_eq_false_iff_not]; omega]
    go_wp2_with fail
    refine (digit_any y _).mono ?_
    rintro e w9 ⟨rfl, rfl⟩
    rw [show decide (48 ≤ y ∧ y ≤ 57) = false by rw [decide_eq_false_iff_not]; omega]
    go_wp2_with fail
    refine (blk_any y _).mono ?_
    rintro e w9 ⟨rfl, rfl⟩
    rw [show decide (y = 32 ∨ y = 9 ∨ y = 13) = false by rw [decide_eq_false_iff_not]; omega]
    go_wp2_with fail
    refine (alive19 _).mono ?_
    rintro e w9 ⟨rfl, hb9⟩
    have E9 := Lib.hid (E4.out.trans (hb9.mono E4.out.size))
    clear hb9
    go_wp2_with fail
    go_ret
    exact ⟨rfl, E9.out⟩
  by_cases h5844 : y ≤ 122
  · have i1 : (97 : Int) ≤ (y : Int) := by omega
    have di1 : decide ((97 : Int) ≤ (y : Int)) = true := by rw [decide_eq_true_iff]; exact i1
    have i4 : (y : Int) ≤ 122 := by omega
    have di4 : decide ((y : Int) ≤ 122) = true := by rw [decide_eq_true_iff]; exact i4
    have i2 : (48 : Int) ≤ (y : Int) := by omega
    have di2 : decide ((48 : Int) ≤ (y : Int)) = true := by rw [decide_eq_true_iff]; exact i2
    have i3 : ¬ (y : Int) ≤ 57 := by omega
    have di3 : decide ((y : Int) ≤ 57) = false := by rw [decide_eq_false_iff_not]; exact i3
    have q32 : ((y : Int) == 32) = false := by rw [beq_eq_false_iff_ne]; omega
    have q9 : ((y : Int) == 9) = false := by rw [beq_eq_false_iff_ne]; omega
    have q13 : ((y : Int) == 13) = false := by rw [beq_eq_false_iff_ne]; omega
    go_wp2_with fail
    refine (letter_any y _).mono ?_
    rintro e w9 ⟨rfl, rfl⟩
    rw [show decide (97 ≤ y ∧ y ≤ 122) = true by rw [decide_eq_true_iff]; omega]
    go_wp2_with fail
    refine (digit_any y _).mono ?_
    rintro e w9 ⟨rfl, rfl⟩
    rw [show decide (48 ≤ y ∧ y ≤ 57) = false by rw [decide_eq_false_iff_not]; omega]
    go_wp2_with fail
    refine (blk_any y _).mono ?_
    rintro e w9 ⟨rfl, rfl⟩
    rw [show decide (y = 32 ∨ y = 9 ∨ y = 13) = false by rw [decide_eq_false_iff_not]; omega]
    go_wp2_with fail
    refine (alive19 _).mono ?_
    rintro e w9 ⟨rfl, hb9⟩
    have E9 := Lib.hid (E4.out.trans (hb9.mono E4.out.size))
    clear hb9
    go_wp2_with fail
    go_ret
    exact ⟨rfl, E9.out⟩
  have i1 : (97 : Int) ≤ (y : Int) := by omega
  have di1 : decide ((97 : Int) ≤ (y : Int)) = true := by rw [decide_eq_true_iff]; exact i1
  have i4 : ¬ (y : Int) ≤ 122 := by omega
  have di4 : decide ((y : Int) ≤ 122) = false := by rw [decide_eq_false_iff_not]; exact i4
  have i2 : (48 : Int) ≤ (y : Int) := by omega
  have di2 : decide ((48 : Int) ≤ (y : Int)) = true := by rw [decide_eq_true_iff]; exact i2
  have i3 : ¬ (y : Int) ≤ 57 := by omega
  have di3 : decide ((y : Int) ≤ 57) = false := by rw [decide_eq_false_iff_not]; exact i3
  have q32 : ((y : Int) == 32) = false := by rw [beq_eq_false_iff_ne]; omega
  have q9 : ((y : Int) == 9) = false := by rw [beq_eq_false_iff_ne]; omega
  have q13 : ((y : Int) == 13) = false := by rw [beq_eq_false_iff_ne]; omega
  go_wp2_with fail
  refine (letter_any y _).mono ?_
  rintro e w9 ⟨rfl, rfl⟩
  rw [show decide (97 ≤ y ∧ y ≤ 122) = false by rw [decide_eq_false_iff_not]; omega]
  go_wp2_with fail
  refine (digit_any y _).mono ?_
  rintro e w9 ⟨rfl, rfl⟩
  rw [show decide (48 ≤ y ∧ y ≤ 57) = false by rw [decide_eq_false_iff_not]; omega]
  go_wp2_with fail
  refine (blk_any y _).mono ?_
  rintro e w9 ⟨rfl, rfl⟩
  rw [show decide (y = 32 ∨ y = 9 ∨ y = 13) = false by rw [decide_eq_false_iff_not]; omega]
  go_wp2_with fail
  refine (alive19 _).mono ?_
  rintro e w9 ⟨rfl, hb9⟩
  have E9 := Lib.hid (E4.out.trans (hb9.mono E4.out.size))
  clear hb9
  go_wp2_with fail
  go_ret
  exact ⟨rfl, E9.out⟩

end Go.Proofs.Ythchgjjnlnadnaa.lexerPlaces
