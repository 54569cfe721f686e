/- The methods of pack's Reader. -/
import Derived.Test.YtnjdeikikdieoabPackE
import Derived.Test.YtnjdeikikdieoabPackRM
import Derived.Test.YtnjdeikikdieoabPackRA
import Derived.Test.YtnjdeikikdieoabBlocks
import Derived.WalkKit
import Derived.Deep.QuietTactic
import Derived.Lib.Hide
import Derived.Lib.SmallJoins
import Derived.WalkSpells
import Derived.WalkLawsBesides
import Derived.IntWalk
namespace Go.Proofs.Ytnjdeikikdieoab
open Go.RowKit
set_option linter.unusedVariables false
set_option linter.unusedSimpArgs false
/-- a reader of bytes: its box, and the bytes that are left -/
def RS (w0 w : World) (g : Nat) (T : TypeId) (zs : List Int) (bad : Bool) : Prop :=
  ∃ A c, Blk w g T #[.slice A zs.length c, .bool bad] ∧ RdI w0 .u8 A zs ∧ zs.length ≤ c ∧ c ≤ maxLen
/-- from one world to the other the one box alone changes -/
def Upd (g : Nat) (w w' : World) : Prop := (∀ a : World, Below a.heap.size a w → a.heap.size ≤ g → Below a.heap.size a w') ∧ ∀ b t cs, b ≠ g → Blk w b t cs → Blk w' b t cs
theorem Upd.trans {g : Nat} {w w1 w2 : World} (h : Upd g w w1) (h' : Upd g w1 w2) : Upd g w w2 := ⟨fun a ha hg => h'.1 a (h.1 a ha hg) hg, fun b t cs hn hb => h'.2 b t cs hn (h.2 b t cs hn hb)⟩
theorem upd_one {g : Nat} {w w1 : World} (h1 : Below w.heap.size w w1) (v0 : Value) : Upd g w (w1.setCell ⟨g, 0, none⟩ v0) :=
  ⟨fun a ha hg => (ha.trans (h1.mono ha.size)).setCell (p := ⟨g, 0, none⟩) hg v0, fun b t cs hn hb => (hb.next h1).far (p := ⟨g, 0, none⟩) hn v0⟩
theorem upd_two {g : Nat} {w w1 : World} (h1 : Below w.heap.size w w1) (v0 v1 : Value) : Upd g w ((w1.setCell ⟨g, 0, none⟩ v0).setCell ⟨g, 1, none⟩ v1) :=
  ⟨fun a ha hg => ((ha.trans (h1.mono ha.size)).setCell (p := ⟨g, 0, none⟩) hg v0).setCell (p := ⟨g, 1, none⟩) hg v1, fun b t cs hn hb => ((hb.next h1).far (p := ⟨g, 0, none⟩) hn v0).far (p := ⟨g, 1, none⟩) hn v1⟩
theorem upd_refl (g : Nat) (w : World) : Upd g w w := ⟨fun a ha _ => ha, fun b t cs _ hb => hb⟩
theorem upd_grow {g : Nat} {w w1 : World} (h1 : Below w.heap.size w w1) : Upd g w w1 := ⟨fun a ha hg => ha.trans (h1.mono ha.size), fun b t cs hn hb => hb.next h1⟩
theorem upd_below {g : Nat} {a w w' : World} (hB : Below a.heap.size a w) (hg : a.heap.size ≤ g) (h : Upd g w w') : Below a.heap.size a w' := h.1 a hB hg
theorem upd_blk {g b : Nat} {w w' : World} {t : TypeId} {cs : Array Value} (hb : Blk w b t cs) (hn : b ≠ g) (h : Upd g w w') : Blk w' b t cs := h.2 b t cs hn hb
theorem rs_blk {g b : Nat} {w0 w w' : World} {t : TypeId} {zs : List Int} {bad : Bool} (hb : RS w0 w b t zs bad) (hn : b ≠ g) (h : Upd g w w') : RS w0 w' b t zs bad := by
  obtain ⟨A, c, h1, h2, h3, h4⟩ := hb
  exact ⟨A, c, upd_blk h1 hn h, h2, h3, h4⟩
theorem rs_next {b : Nat} {w0 w w' : World} {t : TypeId} {zs : List Int} {bad : Bool} (hb : RS w0 w b t zs bad) (h : Below w.heap.size w w') : RS w0 w' b t zs bad := by
  obtain ⟨A, c, h1, h2, h3, h4⟩ := hb
  exact ⟨A, c, h1.next h, h2, h3, h4⟩
/-- what is left behind a number -/
def nextB (zs : List Int) : List Int := if (numB zs).2 = 0 then [] else zs.drop (numB zs).2
def isBad (zs : List Int) : Bool := (numB zs).2 == 0
theorem nextB_le (zs : List Int) : (nextB zs).length ≤ zs.length := by
  unfold nextB; split <;> simp
theorem rdI_drop {w : World} {k : IntKind} {b o : Nat} {zs : List Int} (h : RdI w k (some ⟨b, o, none⟩) zs) (i : Nat) : RdI w k (some ⟨b, o + i, none⟩) (zs.drop i) := by
  intro j hj
  rw [List.length_drop] at hj
  obtain ⟨a, ha, h1, h2, h3⟩ := h (i + j) (by omega)
  obtain rfl := Option.some.inj ha
  have e : zat (zs.drop i) j = zat zs (i + j) := by simp [zat, List.getD, List.getElem?_drop]
  have e2 : ∀ n, (⟨b, o, none⟩ : Addr).add n = ⟨b, o + n, none⟩ := fun n => by unfold Addr.add; split <;> simp_all
  have e3 : ∀ n, (⟨b, o + i, none⟩ : Addr).add n = ⟨b, o + i + n, none⟩ := fun n => by unfold Addr.add; split <;> simp_all
  refine ⟨⟨b, o + i, none⟩, rfl, h1, ?_, by rw [e]; exact h3⟩
  rw [e, e3, Nat.add_assoc, ← e2]
  exact h2
set_option maxRecDepth 100000 in
set_option maxHeartbeats 1000000 in
theorem pfail_any (g : Nat) (v : Value) (bad : Bool) (w : World) (h : Blk w g 85 #[v, .bool bad]) :
    Calls Try.prog 41 #[.pointer (some ⟨g, 0, none⟩)] w fun e w' => e = .returned (.tuple #[]) ∧ w' = (w.setCell ⟨g, 0, none⟩ (.slice none 0 0)).setCell ⟨g, 1, none⟩ (.bool true) := by
  obtain ⟨k0, k1, j0, j1⟩ := h.two
  clear h
  go_enter Try.func41, Try.ntmps41
  go_wp2_with fail
  go_end0
  exact ⟨rfl, rfl⟩
set_option maxRecDepth 100000 in
set_option maxHeartbeats 4000000 in
theorem pnum_any (g : Nat) (zs : List Int) (bad : Bool) (w0 w : World) (hs : RS w0 w g 85 zs bad) (hB : Below w0.heap.size w0 w) (hl : zs.length ≤ 1000000) :
    Calls Try.prog 40 #[.pointer (some ⟨g, 0, none⟩)] w fun e w' => e = .returned (.int .u64 ((numB zs).1 : Nat)) ∧ RS w0 w' g 85 (nextB zs) (bad || isBad zs) ∧ Upd g w w' := by
  obtain ⟨A, c, hb, hr, hc1, hc2⟩ := hs
  have K := Lib.hid (pfirst_any A c zs w (RdI.kept hr hB) hl hc1 hc2)
  have HR := Lib.hid hr
  have HBd := Lib.hid (numB_bd zs)
  obtain ⟨k0, k1, j0, j1⟩ := hb.two
  have HB := Lib.hid hb
  clear hb hr hB
  obtain ⟨m, hm⟩ : ∃ m, (numB zs).1 = m := ⟨_, rfl⟩
  obtain ⟨k, hk⟩ : ∃ k, (numB zs).2 = k := ⟨_, rfl⟩
  have HK := Lib.hid hk
  have HM := Lib.hid hm
  obtain ⟨b1, b2, b3, b4⟩ := HBd.out
  rw [hm] at b1 b4 K ⊢
  rw [hk] at b2 b3 b4 K
  clear hk hm
  obtain ⟨n, hn⟩ : ∃ n, zs.length = n := ⟨_, rfl⟩
  have HN := Lib.hid hn
  rw [hn] at hl hc1 b2 K k0 HB
  clear hn
  have hM : maxLen ≤ 9223372036854775807 := by decide
  by_cases hz : k = 0
  · have e1 : nextB zs = [] := by unfold nextB; rw [if_pos (HK.out.trans hz)]
    have e2 : (bad || isBad zs) = true := by unfold isBad; rw [HK.out, hz]; simp
    have e3 : m = 0 := b4 hz
    rw [e1, e2]
    clear e1 e2 b4
    subst hz e3
    go_enter Try.func40, Try.ntmps40
    go_wp2_with fail
    refine K.out.mono ?_
    rintro e w1 ⟨rfl, rfl⟩
    go_wp2_with fail
    refine (pfail_any g _ bad _ HB.out).mono ?_
    rintro e w2 ⟨rfl, rfl⟩
    go_wp2_with fail
    go_ret
    exact ⟨rfl, ⟨none, 0, (Blk.put2 HB.out _ _), fun i hi => absurd hi (by simp), by simp, by simp [maxLen]⟩, upd_two (Below.refl _ _) _ _⟩
  · have e1 : nextB zs = zs.drop k := by unfold nextB; rw [if_neg (by rw [HK.out]; exact hz), HK.out]
    have e2 : (bad || isBad zs) = bad := by unfold isBad; rw [HK.out]; simp [hz]
    rw [e1, e2]
    clear e1 e2 b4
    obtain ⟨b, o, rfl, _, _⟩ := rdI_row HR.out (by rw [HN.out]; omega)
    have hz0 : ((k : Int) == 0) = false := by rw [beq_eq_false_iff_ne]; omega
    have hkn : (k : Int) ≤ (n : Int) := by omega
    by_cases hkc : k < c
    · skip
      have hkc1 : (k : Int) < (c : Int) := by omega
      go_enter Try.func40, Try.ntmps40
      go_wp2_with fail
      refine K.out.mono ?_
      rintro e w1 ⟨rfl, rfl⟩
      go_wp2_with fail
      go_ret
      refine ⟨rfl, ⟨some ⟨b, o + k, none⟩, c - k, ?_, rdI_drop HR.out k, by rw [List.length_drop, HN.out]; omega, by omega⟩, upd_one (Below.refl _ _) _⟩
      have := HB.out.set 0 (.slice (some ⟨b, o + k, none⟩) (n - k) (c - k))
      rw [List.length_drop, HN.out]
      exact this
    · obtain rfl : k = c := by omega
      obtain rfl : k = n := by omega
      clear hkc
      have e0 : zs.drop k = [] := List.drop_eq_nil_of_le (by rw [HN.out]; exact Nat.le_refl _)
      rw [e0]
      go_enter Try.func40, Try.ntmps40
      go_wp2_with fail
      refine K.out.mono ?_
      rintro e w1 ⟨rfl, rfl⟩
      go_wp2_with fail
      go_ret
      refine ⟨rfl, ⟨some ⟨b, o, none⟩, 0, ?_, fun i hi => absurd hi (by simp), by simp, by simp [maxLen]⟩, upd_one (Below.refl _ _) _⟩
      have := HB.out.set 0 (.slice (some ⟨b, o, none⟩) 0 0)
      exact this
/-- what a text is, of bytes, and what is left behind it -/
def smallV (zs : List Int) (most : Int) : Bool := decide (most < 0) || decide (most < ((numB zs).1 : Int))
def textV (zs : List Int) : ByteArray := if (nextB zs).length < (numB zs).1 then ByteArray.empty else strOfNums ((nextB zs).take (numB zs).1)
def textN (zs : List Int) : List Int := if (nextB zs).length < (numB zs).1 then [] else (nextB zs).drop (numB zs).1
def textBad (zs : List Int) : Bool := isBad zs || decide ((nextB zs).length < (numB zs).1)
theorem textN_le (zs : List Int) : (textN zs).length ≤ zs.length := by
  have := nextB_le zs
  unfold textN; split <;> simp <;> omega
theorem zat_take {zs : List Int} {k i : Nat} (h : i < k) : zat (zs.take k) i = zat zs i := by
  simp [zat, List.getD, List.getElem?_take_of_lt h]
theorem conv_take {w : World} {b o n c : Nat} {zs : List Int} (hr : RdI w .u8 (some ⟨b, o, none⟩) zs) (hn : n ≤ zs.length) :
    (convert 42 9 (.slice (some ⟨b, o, none⟩) n c)).run Try.prog w = .ok (.string (strOfNums (zs.take n))) w := by
  refine run_convert_bytes_arg w 42 5 Try.underlying42 Try.underlying5 b o n c (zs.take n) (by simp; omega) (fun i hi => ?_) 9 Try.underlying9
  obtain ⟨a, ha, h1, h2, h3⟩ := hr i (by omega)
  obtain rfl := Option.some.inj ha
  have e3 : (⟨b, o, none⟩ : Addr).add i = ⟨b, o + i, none⟩ := by unfold Addr.add; split <;> simp_all
  rw [e3] at h2
  rw [h2]
  show _ = some (Value.int .u8 (zat (zs.take n) i))
  rw [zat_take hi]
theorem conv_nil (w : World) (n c : Nat) : (convert 42 9 (.slice none n c)).run Try.prog w = .ok (.string ByteArray.empty) w :=
  run_convert_bytes_nil w 42 5 Try.underlying42 Try.underlying5 n c 9 Try.underlying9
theorem conv_zero (w : World) (a : Addr) (c : Nat) : (convert 42 9 (.slice (some a) 0 c)).run Try.prog w = .ok (.string ByteArray.empty) w := by
  rw [run_convert_bytes_string w 42 9 5 (some a) 0 c Try.underlying42 Try.underlying5 Try.underlying9]
  have := run_bytesToString (P := Try.prog) w a 0 c [] (by simpa using run_loadCells_list (P := Try.prog) w a [] (fun j v hj => by simp at hj))
  simpa using this
theorem str_nil : strOfNums [] = ByteArray.empty := rfl
set_option maxHeartbeats 1000000 in
theorem pint_any (g : Nat) (zs : List Int) (bad : Bool) (w0 w : World) (hs : RS w0 w g 85 zs bad) (hB : Below w0.heap.size w0 w) (hl : zs.length ≤ 1000000) :
    Calls Try.prog 19 #[.pointer (some ⟨g, 0, none⟩)] w fun e w' => e = .returned (.int .i64 (unfoldI (numB zs).1)) ∧ RS w0 w' g 85 (nextB zs) (bad || isBad zs) ∧ Upd g w w' := by
  have K := Lib.hid (pnum_any g zs bad w0 w hs hB hl)
  have hu := (numB_bd zs).1
  obtain ⟨m, hm⟩ : ∃ m, (numB zs).1 = m := ⟨_, rfl⟩
  rw [hm] at K hu ⊢
  have K2 := fun w => Lib.hid (punfold_any m w hu)
  clear hs hB
  go_enter Try.func19, Try.ntmps19
  go_wp2_with fail
  refine K.out.mono ?_
  rintro e w1 ⟨rfl, h1, h2⟩
  go_wp2_with fail
  refine (K2 _).out.mono ?_
  rintro e w2 ⟨rfl, rfl⟩
  go_wp2_with fail
  go_ret
  exact ⟨rfl, h1, h2⟩
set_option maxRecDepth 100000 in
set_option maxHeartbeats 1000000 in
theorem psmall_any (g : Nat) (zs : List Int) (bad : Bool) (most : Int) (w0 w : World) (hs : RS w0 w g 85 zs bad) (hB : Below w0.heap.size w0 w) (hl : zs.length ≤ 1000000) (m0 : -9223372036854775808 ≤ most) (m1 : most ≤ 9223372036854775807) :
    Calls Try.prog 47 #[.pointer (some ⟨g, 0, none⟩), .int .i64 most] w fun e w' => e = .returned (.int .i64 (if smallV zs most then 0 else (numB zs).1)) ∧ RS w0 w' g 85 (if smallV zs most then [] else nextB zs) (bad || isBad zs || smallV zs most) ∧ Upd g w w' := by
  have K := Lib.hid (pnum_any g zs bad w0 w hs hB hl)
  have hu := (numB_bd zs).1
  obtain ⟨s, hS⟩ : ∃ s, smallV zs most = s := ⟨_, rfl⟩
  rw [hS]
  have HS := hS
  unfold smallV at HS
  obtain ⟨m, hm⟩ : ∃ m, (numB zs).1 = m := ⟨_, rfl⟩
  rw [hm] at K hu HS ⊢
  clear hs hB hS
  cases s
  · rw [Bool.or_eq_false_iff, decide_eq_false_iff_not, decide_eq_false_iff_not] at HS
    obtain ⟨q1, q2⟩ := HS
    have wc : IntKind.u64.wrap most = most := by rw [IntKind.wrap_u64]; omega
    have wm : IntKind.i64.wrap (m : Int) = m := IntWalk.i64_in _ (by omega)
    go_enter Try.func47, Try.ntmps47
    go_wp2_with fail
    refine K.out.mono ?_
    rintro e w1 ⟨rfl, h1, h2⟩
    go_wp2_with fail
    go_ret
    exact ⟨by simp, by simpa using h1, h2⟩
  · rw [Bool.or_eq_true, decide_eq_true_eq, decide_eq_true_eq] at HS
    by_cases q1 : most < 0
    all_goals (
      (try have wc : IntKind.u64.wrap most = most := by rw [IntKind.wrap_u64]; omega)
      (try have q2 : most < (m : Int) := by omega)
      go_enter Try.func47, Try.ntmps47
      go_wp2_with fail
      refine K.out.mono ?_
      rintro e w1 ⟨rfl, h1, h2⟩
      obtain ⟨A, c, hb, hr, hc1, hc2⟩ := h1
      have HB := Lib.hid hb
      clear hb
      go_wp2_with fail
      refine (pfail_any g _ _ _ HB.out).mono ?_
      rintro e w2 ⟨rfl, rfl⟩
      go_wp2_with fail
      go_ret
      exact ⟨by simp, ⟨none, 0, by simpa using Blk.put2 HB.out (.slice none 0 0) (.bool true), fun i hi => absurd hi (by simp), by simp, by simp [maxLen]⟩, h2.trans (upd_two (Below.refl _ _) _ _)⟩)
set_option maxRecDepth 100000 in
set_option maxHeartbeats 4000000 in
theorem ptext_any (g : Nat) (zs : List Int) (bad : Bool) (w0 w : World) (hs : RS w0 w g 85 zs bad) (hB : Below w0.heap.size w0 w) (hg : w0.heap.size ≤ g) (hl : zs.length ≤ 1000000) :
    Calls Try.prog 20 #[.pointer (some ⟨g, 0, none⟩)] w fun e w' => e = .returned (.string (textV zs)) ∧ RS w0 w' g 85 (textN zs) (bad || textBad zs) ∧ Upd g w w' := by
  have K := Lib.hid (pnum_any g zs bad w0 w hs hB hl)
  have hu := (numB_bd zs).1
  have hnl := nextB_le zs
  unfold textV textN textBad
  obtain ⟨m, hm⟩ : ∃ m, (numB zs).1 = m := ⟨_, rfl⟩
  rw [hm] at K hu ⊢
  obtain ⟨ys, hy⟩ : ∃ ys, nextB zs = ys := ⟨_, rfl⟩
  rw [hy] at K hnl ⊢
  obtain ⟨bb, hbb⟩ : ∃ bb, (bad || isBad zs) = bb := ⟨_, rfl⟩
  rw [← Bool.or_assoc, hbb]
  rw [hbb] at K
  have HB0 := Lib.hid hB
  obtain ⟨n, hn⟩ : ∃ n, ys.length = n := ⟨_, rfl⟩
  have HN := Lib.hid hn
  rw [hn] at hnl ⊢
  clear hs hB hm hy hbb hn
  have hM : maxLen ≤ 9223372036854775807 := by decide
  by_cases hlt : n < m
  · rw [if_pos hlt, if_pos hlt, decide_eq_true hlt]
    go_enter Try.func20, Try.ntmps20
    go_wp2_with fail
    refine K.out.mono ?_
    rintro e w1 ⟨rfl, h1, h2⟩
    obtain ⟨A, c, hb, hr, hc1, hc2⟩ := h1
    have HB := Lib.hid hb
    obtain ⟨k0, k1, j0, j1⟩ := hb.two
    rw [HN.out] at k0
    clear hb
    have wc : IntKind.u64.wrap (n : Int) = n := by rw [IntKind.wrap_u64]; omega
    go_wp2_with fail
    refine (pfail_any g _ _ _ HB.out).mono ?_
    rintro e w2 ⟨rfl, rfl⟩
    go_wp2_with fail
    go_ret
    exact ⟨rfl, ⟨none, 0, by simpa using Blk.put2 HB.out (.slice none 0 0) (.bool true), fun i hi => absurd hi (by simp), by simp, by simp [maxLen]⟩, h2.trans (upd_two (Below.refl _ _) _ _)⟩
  · rw [if_neg hlt, if_neg hlt, decide_eq_false hlt, Bool.or_false]
    go_enter Try.func20, Try.ntmps20
    go_wp2_with fail
    refine K.out.mono ?_
    rintro e w1 ⟨rfl, h1, h2⟩
    obtain ⟨A, c, hb, hr, hc1, hc2⟩ := h1
    have hB1 := upd_below HB0.out hg h2
    have HB := Lib.hid hb
    obtain ⟨k0, k1, j0, j1⟩ := hb.two
    rw [HN.out] at k0 hc1
    clear hb
    have wc : IntKind.u64.wrap (n : Int) = n := by rw [IntKind.wrap_u64]; omega
    have q1 : (m : Int) ≤ (n : Int) := by omega
    have wm : IntKind.i64.wrap (m : Int) = m := IntWalk.i64_in _ (by omega)
    by_cases h0 : n = 0
    · subst h0
      obtain rfl : m = 0 := by omega
      obtain rfl : ys = [] := List.eq_nil_of_length_eq_zero HN.out
      cases A with
      | none =>
        have cv := conv_nil w1 0 c
        have cv0 := conv_nil w1 0 0
        rcases Nat.eq_zero_or_pos c with rfl | hcp
        all_goals (
          go_wp2_with fail
          go_ret
          refine ⟨rfl, ⟨_, _, Blk.set HB.out 0 _, fun i hi => absurd hi (by simp), by simp <;> omega, by simp [maxLen] <;> omega⟩, h2.trans (upd_one (Below.refl _ _) _)⟩)
      | some a =>
        have cv := conv_zero w1 a c
        rcases Nat.eq_zero_or_pos c with rfl | hcp
        all_goals (
          go_wp2_with fail
          go_ret
          refine ⟨rfl, ⟨_, _, Blk.set HB.out 0 _, fun i hi => absurd hi (by simp), by simp <;> omega, by simp [maxLen] <;> omega⟩, h2.trans (upd_one (Below.refl _ _) _)⟩)
    · obtain ⟨b, o, rfl, _, _⟩ := rdI_row hr (by rw [HN.out]; omega)
      have cv := conv_take (n := m) (c := c) (RdI.kept hr hB1) (by rw [HN.out]; omega)
      have HR := Lib.hid hr
      clear hr hB1
      by_cases hmc : m < c
      · have hmc1 : (m : Int) < (c : Int) := by omega
        go_wp2_with fail
        go_ret
        refine ⟨rfl, ⟨some ⟨b, o + m, none⟩, c - m, ?_, rdI_drop HR.out m, by rw [List.length_drop, HN.out]; omega, by omega⟩, h2.trans (upd_one (Below.refl _ _) _)⟩
        have := Blk.set HB.out 0 (.slice (some ⟨b, o + m, none⟩) (n - m) (c - m))
        rw [List.length_drop, HN.out]
        exact this
      · obtain rfl : m = c := by omega
        obtain rfl : m = n := by omega
        clear hmc
        have e0 : ys.drop m = [] := List.drop_eq_nil_of_le (by rw [HN.out]; exact Nat.le_refl _)
        go_wp2_with fail
        go_ret
        rw [e0]
        refine ⟨rfl, ⟨some ⟨b, o, none⟩, 0, ?_, fun i hi => absurd hi (by simp), by simp, by simp [maxLen]⟩, h2.trans (upd_one (Below.refl _ _) _)⟩
        have := Blk.set HB.out 0 (.slice (some ⟨b, o, none⟩) 0 0)
        exact this
theorem pleft_any (g : Nat) (zs : List Int) (bad : Bool) (w0 w : World) (hs : RS w0 w g 85 zs bad) (hl : zs.length ≤ 1000000) :
    Calls Try.prog 21 #[.pointer (some ⟨g, 0, none⟩)] w fun e w' => e = .returned (.int .i64 (zs.length : Nat)) ∧ w = w' := by
  obtain ⟨A, c, hb, hr, hc1, hc2⟩ := hs
  obtain ⟨k0, k1, j0, j1⟩ := hb.two
  clear hb hr
  go_enter Try.func21, Try.ntmps21
  go_wp2_with fail
  go_ret
  exact ⟨rfl, rfl⟩
theorem pbad_any (g : Nat) (zs : List Int) (bad : Bool) (w0 w : World) (hs : RS w0 w g 85 zs bad) :
    Calls Try.prog 22 #[.pointer (some ⟨g, 0, none⟩)] w fun e w' => e = .returned (.bool bad) ∧ w = w' := by
  obtain ⟨A, c, hb, hr, hc1, hc2⟩ := hs
  obtain ⟨k0, k1, j0, j1⟩ := hb.two
  clear hb hr
  go_enter Try.func22, Try.ntmps22
  go_wp2_with fail
  go_ret
  exact ⟨rfl, rfl⟩
theorem pmake_any (A : Option Addr) (c : Nat) (zs : List Int) (w : World) (hr : RdI w .u8 A zs) (hc1 : zs.length ≤ c) (hc2 : c ≤ maxLen) :
    Calls Try.prog 18 #[.slice A zs.length c] w fun e w' => e = .returned (.pointer (some ⟨w.heap.size, 0, none⟩)) ∧ RS w w' w.heap.size 85 zs false ∧ Below w.heap.size w w' ∧ w'.heap.size = w.heap.size + 1 := by
  have HR := Lib.hid hr
  clear hr
  go_enter Try.func18, Try.ntmps18
  go_wp2_with fail
  go_ret
  exact ⟨rfl, ⟨A, c, Blk.new w _ _, HR.out, hc1, hc2⟩, (Below.refl _ _).alloc (Nat.le_refl _) _, World.size_alloc ..⟩
def readV (zs : List Int) : Value := if (numB zs).2 = 0 ∨ (numB zs).2 ≠ zs.length then .tuple #[.int .u64 0, .int .i64 20] else .tuple #[.int .u64 ((numB zs).1 : Nat), .int .i64 0]
set_option maxHeartbeats 1000000 in
theorem pread_any (A : Option Addr) (c : Nat) (zs : List Int) (w : World) (hr : RdI w .u8 A zs) (hl : zs.length ≤ 1000000) (hc1 : zs.length ≤ c) (hc2 : c ≤ maxLen) :
    Calls Try.prog 24 #[.slice A zs.length c] w fun e w' => e = .returned (readV zs) ∧ w = w' := by
  have K := Lib.hid (pfirst_any A c zs w hr hl hc1 hc2)
  have hbd := numB_bd zs
  unfold readV
  obtain ⟨m, hm⟩ : ∃ m, (numB zs).1 = m := ⟨_, rfl⟩
  obtain ⟨k, hk⟩ : ∃ k, (numB zs).2 = k := ⟨_, rfl⟩
  rw [hm, hk] at K hbd
  rw [hm, hk]
  obtain ⟨n, hn⟩ : ∃ n, zs.length = n := ⟨_, rfl⟩
  rw [hn] at hl hc1 K hbd ⊢
  clear hr hm hk hn
  by_cases h0 : k = 0
  · have h0' : ((k : Int) == 0) = true := by simp [h0]
    rw [if_pos (Or.inl h0)]
    clear h0
    go_enter Try.func24, Try.ntmps24
    go_wp2_with fail
    refine K.out.mono ?_
    rintro e w1 ⟨rfl, rfl⟩
    go_wp2_with fail
    go_ret2
    exact ⟨rfl, rfl⟩
  · have h0' : ((k : Int) == 0) = false := by rw [beq_eq_false_iff_ne]; omega
    by_cases h1 : k = n
    · have h1' : ((k : Int) != (n : Int)) = false := by simp [h1]
      have h1'' : ((k : Int) == (n : Int)) = true := by simp [h1]
      rw [if_neg (by omega)]
      clear h0 h1
      go_enter Try.func24, Try.ntmps24
      go_wp2_with fail
      refine K.out.mono ?_
      rintro e w1 ⟨rfl, rfl⟩
      go_wp2_with fail
      go_ret2
      exact ⟨rfl, rfl⟩
    · have h1'' : ((k : Int) == (n : Int)) = false := by rw [beq_eq_false_iff_ne]; omega
      have h1' : ((k : Int) != (n : Int)) = true := by simp [bne, h1'']
      rw [if_pos (Or.inr h1)]
      clear h0 h1
      go_enter Try.func24, Try.ntmps24
      go_wp2_with fail
      refine K.out.mono ?_
      rintro e w1 ⟨rfl, rfl⟩
      go_wp2_with fail
      go_ret2
      exact ⟨rfl, rfl⟩
end Go.Proofs.Ytnjdeikikdieoab
