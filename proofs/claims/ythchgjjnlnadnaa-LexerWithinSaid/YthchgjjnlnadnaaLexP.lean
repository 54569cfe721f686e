/- Lexer: Place, of both; a text that is too long. -/
import Derived.Test.YthchgjjnlnadnaaRows
import Derived.Test.YthchgjjnlnadnaaRowKit
import Derived.Test.YthchgjjnlnadnaaShelf
import Derived.Test.YthchgjjnlnadnaaBlocks
import Derived.Test.YthchgjjnlnadnaaBL
import Derived.Test.YthchgjjnlnadnaaLexM
import Derived.Test.YthchgjjnlnadnaaRowL
import Derived.Test.YthchgjjnlnadnaaRowM
import Derived.Test.YthchgjjnlnadnaaLexA
import Derived.Test.YthchgjjnlnadnaaLexB
import Derived.Test.YthchgjjnlnadnaaLexC
import Derived.Test.YthchgjjnlnadnaaLexD
import Derived.Test.YthchgjjnlnadnaaLexE
import Derived.Test.YthchgjjnlnadnaaLexF
import Derived.Test.YthchgjjnlnadnaaCut
import Derived.Test.YthchgjjnlnadnaaLexG
import Derived.Laws.MakeOwn
import Derived.Laws.AppendOwnNone
import Derived.Lib.LastIndexByte
import Derived.Lib.Bytealg
import Derived.WalkKit
import Derived.IntWalk
import Derived.Lib.Hide
import Derived.WalkSpells
import Derived.WalkLawsBesides
import Derived.Laws.IdiomStrings
import Derived.Laws.OwnMore
import Derived.OwnWalk
import Derived.Deep.QuietTactic
import Derived.BigQuiet
import Derived.BigRegion
import Derived.Deep.LoopGhost
namespace Go.Proofs.Ythchgjjnlnadnaa
open Go.RowKit Go.Sort
set_option linter.unusedSimpArgs false
set_option linter.unusedVariables false
/-- the line and the column behind bytes -/
def plF (s : Nat × Nat) (x : UInt8) : Nat × Nat := if x.toNat = 10 then (s.1 + 1, 1) else (s.1, s.2 + 1)
def plc (P : List UInt8) : Nat × Nat := P.foldl plF (1, 1)
theorem plc_take {S : List UInt8} {k : Nat} {x : UInt8} (h : S[k]? = some x) : plc (S.take (k + 1)) = plF (plc (S.take k)) x := by
  unfold plc
  rw [List.take_add_one, h, List.foldl_append]
  rfl
theorem plc_bound : ∀ (S : List UInt8) (k : Nat), (plc (S.take k)).1 ≤ k + 1 ∧ (plc (S.take k)).2 ≤ k + 1
  | S, 0 => by simp [plc]
  | S, k + 1 => by
    have ih := plc_bound S k
    rcases Nat.lt_or_ge k S.length with h | h
    · rw [plc_take (List.getElem?_eq_getElem h)]
      unfold plF
      split <;> simp <;> omega
    · rw [List.take_of_length_le (by omega)]
      rw [List.take_of_length_le (by omega)] at ih
      omega
theorem plc_fst : ∀ (S : List UInt8) (k : Nat), (plc (S.take k)).1 = 1 + Lib.countByte (S.take k) 10
  | S, 0 => by simp [plc, Lib.countByte]
  | S, k + 1 => by
    have ih := plc_fst S k
    rcases Nat.lt_or_ge k S.length with h | h
    · have hx : S[k]? = some S[k] := List.getElem?_eq_getElem h
      rw [plc_take hx, List.take_add_one, hx]
      unfold Lib.countByte at ih ⊢
      rw [List.count_append]
      unfold plF
      by_cases q : S[k].toNat = 10
      · have e : S[k] = 10 := UInt8.toNat_inj.1 q
        rw [if_pos q]
        simp [e]; omega
      · have e : S[k] ≠ 10 := fun e => q (by rw [e]; rfl)
        rw [if_neg q]
        simp [e]; omega
    · rw [List.take_of_length_le (by omega)]
      rw [List.take_of_length_le (by omega)] at ih
      exact ih
theorem bL_get (P : List UInt8) {k : Nat} {x : UInt8} (h : P[k]? = some x) : ((bL P).data[k]!).toNat = x.toNat := by
  have hk : k < P.length := by
    rcases Nat.lt_or_ge k P.length with q | q
    · exact q
    · rw [List.getElem?_eq_none q] at h; cases h
  have e : (bL P).data[k]! = P[k] := by
    show P.toArray[k]! = _
    simp [hk]
  rw [e]
  rw [List.getElem?_eq_getElem hk] at h
  injection h with h
  rw [h]
theorem plc_snd (P : List UInt8) : ∀ k, k ≤ P.length → (k : Int) - Lib.lastIdx (bL P) 10 k = ((plc (P.take k)).2 : Nat)
  | 0, _ => by simp [plc, Lib.lastIdx]
  | k + 1, h => by
    have ih := plc_snd P k (by omega)
    have hx : P[k]? = some P[k] := List.getElem?_eq_getElem (by omega)
    have hg := bL_get P hx
    rw [plc_take hx]
    unfold plF
    by_cases q : P[k].toNat = 10
    · rw [if_pos q, Lib.lastIdx_hit _ _ _ (by rw [hg, q]; rfl)]
      simp; omega
    · rw [if_neg q, Lib.lastIdx_miss _ _ _ (by rw [hg]; omega)]
      simp; omega
theorem plc_last (P : List UInt8) : (P.length : Int) - Lib.lastIndexByte (bL P) 10 = ((plc P).2 : Nat) := by
  have h := plc_snd P P.length (Nat.le_refl _)
  rw [List.take_length] at h
  unfold Lib.lastIndexByte
  rw [bL_size]
  exact h
/-- how many bytes are ahead of a place -/
def clamp (n : Nat) (a : Int) : Nat := min n a.toNat
set_option maxRecDepth 100000 in
set_option maxHeartbeats 4000000 in
theorem place_any (S : List UInt8) (a : Int) (w : World) (hl : S.length ≤ 100000) :
    Calls Try.prog 10 #[.string (bL S), .int .i64 a] w fun e w' => e = .returned (.tuple #[.int .i64 ((plc (S.take (clamp S.length a))).1 : Nat), .int .i64 ((plc (S.take (clamp S.length a))).2 : Nat)]) ∧ w = w' := by
  have hs := bL_size S
  obtain ⟨t, ht⟩ : ∃ t, clamp S.length a = t := ⟨_, rfl⟩
  have htl : t ≤ S.length := by rw [← ht]; unfold clamp; omega
  have hmm : max 0 (min a (S.length : Int)) = (t : Int) := by rw [← ht]; unfold clamp; omega
  rw [ht]
  have hx : (bL S).extract 0 t = bL (S.take t) := by rw [bL_sub, List.drop_zero, Nat.sub_zero]
  have hb := plc_bound S t
  have hc := plc_fst S t
  have hlast := plc_last (S.take t)
  have htt : (S.take t).length = t := by rw [List.length_take]; omega
  rw [htt] at hlast
  obtain ⟨P, hP⟩ : ∃ P, S.take t = P := ⟨_, rfl⟩
  rw [hP] at hx hb hc hlast htt ⊢
  have K1 := Lib.hid (fun W => Try.strings_Count_one (bL P) 10 W)
  have K2 := Lib.hid (fun W => Try.strings_LastIndexByte (bL P) 10 (by rw [bL_size]; omega) W)
  rw [show (bL P).data.toList = P from rfl] at K1
  have hps := bL_size P
  rw [htt] at hps
  obtain ⟨p, hpp⟩ : ∃ p, bL P = p := ⟨_, rfl⟩
  rw [hpp] at hx K1 K2 hps hlast
  obtain ⟨s, hss⟩ : ∃ s, bL S = s := ⟨_, rfl⟩
  rw [hss] at hs hx ⊢
  rw [← hs] at hmm htl
  obtain ⟨x, hxx⟩ : ∃ x, (plc P).1 = x := ⟨_, rfl⟩
  obtain ⟨y, hyy⟩ : ∃ y, (plc P).2 = y := ⟨_, rfl⟩
  rw [hxx] at hb hc ⊢
  rw [hyy] at hb hlast ⊢
  obtain ⟨q, hq⟩ : ∃ q, Lib.countByte P 10 = q := ⟨_, rfl⟩
  obtain ⟨z, hz⟩ : ∃ z, Lib.lastIndexByte p 10 = z := ⟨_, rfl⟩
  rw [hq] at hc K1
  rw [hz] at hlast K2
  have HPS := Lib.hid hps
  have Y1 : Hid (IntKind.i64.wrap (1 + (q : Int)) = (x : Int)) := Lib.hid (by rw [IntWalk.i64_in _ (by omega)]; omega)
  have Y2 : Hid (wrap64 (1 + (q : Int)) = (x : Int)) := Lib.hid (by rw [IntWalk.wrap64_in _ (by omega)]; omega)
  have Y3 : Hid (IntKind.i64.wrap ((p.size : Int) - z) = (y : Int)) := Lib.hid (by rw [HPS.out, IntWalk.i64_in _ (by omega)]; omega)
  have Y4 : Hid (wrap64 ((p.size : Int) - z) = (y : Int)) := Lib.hid (by rw [HPS.out, IntWalk.wrap64_in _ (by omega)]; omega)
  have hti : (t : Int) ≤ (s.size : Int) := by omega
  obtain ⟨Q, hQ⟩ : ∃ Q : Ending → World → Prop, (fun (e : Ending) (w' : World) => e = .returned (.tuple #[.int .i64 (x : Nat), .int .i64 (y : Nat)]) ∧ w = w') = Q := ⟨_, rfl⟩
  rw [hQ]
  have HF : Hid (Q (.returned (.tuple #[.int .i64 (x : Nat), .int .i64 (y : Nat)])) w) := Lib.hid (by rw [← hQ]; exact ⟨rfl, rfl⟩)
  clear ht hP hss hpp hxx hyy hq hz htt hb hc hlast hl hs hps hQ
  go_enter Try.func10, Try.ntmps10
  go_wp2_with fail
  refine (K1.out w).mono ?_
  rintro e w1 ⟨rfl, rfl⟩
  go_wp2_with fail
  refine (K2.out _).mono ?_
  rintro e w1 ⟨rfl, rfl⟩
  have y1 := Y1.out; have y2 := Y2.out; have y3 := Y3.out; have y4 := Y4.out
  go_wp2_with fail
  exact HF.out
set_option maxRecDepth 100000 in
set_option maxHeartbeats 4000000 in
theorem dplace_any (S : List UInt8) (a : Int) (w : World) (hl : S.length ≤ 100000) :
    Calls Try.prog 11 #[.string (bL S), .int .i64 a] w fun e w' => e = .returned (.tuple #[.int .i64 ((plc (S.take (clamp S.length a))).1 : Nat), .int .i64 ((plc (S.take (clamp S.length a))).2 : Nat)]) ∧ w = w' := by
  have hs := bL_size S
  have HX : Hid (∀ k x, S[k]? = some x → ∀ h : k < (bL S).size, ((bL S)[k]'h).toNat = x.toNat) := Lib.hid (fun k x hx => ixL S k x hx)
  obtain ⟨t, ht⟩ : ∃ t, clamp S.length a = t := ⟨_, rfl⟩
  have htl : t ≤ S.length := by rw [← ht]; unfold clamp; omega
  have HT : Hid (∀ i, i < t → (i : Int) < a) := Lib.hid (fun i hi => by rw [← ht] at hi; unfold clamp at hi; omega)
  have HE : Hid (t < S.length → ¬ (t : Int) < a) := Lib.hid (fun h => by rw [← ht] at h ⊢; unfold clamp at h ⊢; omega)
  rw [ht]
  have HP := Lib.hid (fun k => plc_bound S k)
  obtain ⟨s, hss⟩ : ∃ s, bL S = s := ⟨_, rfl⟩
  rw [hss] at hs HX ⊢
  rw [← hs] at htl hl
  have HL : Hid (s.size = S.length) := Lib.hid hs
  obtain ⟨Q, hQ⟩ : ∃ Q : Ending → World → Prop, (fun (e : Ending) (w' : World) => e = .returned (.tuple #[.int .i64 ((plc (S.take t)).1 : Nat), .int .i64 ((plc (S.take t)).2 : Nat)]) ∧ w = w') = Q := ⟨_, rfl⟩
  rw [hQ]
  have HQ : Hid (∀ x y, (x, y) = plc (S.take t) → Q (.returned (.tuple #[.int .i64 (x : Nat), .int .i64 (y : Nat)])) w) := Lib.hid (fun x y h => by rw [← hQ]; exact ⟨by rw [← h], rfl⟩)
  clear ht hss hQ hs
  go_enter Try.func11, Try.ntmps11
  go_wp2_with fail
  go_loopg [6, 7, 8] t (fun gh lv cv iv wr => ∃ i x y : Nat, i ≤ t ∧ gh = t - i ∧ lv = .int .i64 x ∧ cv = .int .i64 y ∧ iv = .int .i64 i ∧ Hid ((x, y) = plc (S.take i)) ∧ w = wr)
  case atStart => exact ⟨0, 1, 1, Nat.zero_le _, rfl, rfl, rfl, rfl, Lib.hid rfl, rfl⟩
  case round =>
    obtain ⟨i, x, y, hi, rfl, rfl, rfl, rfl, HI, rfl⟩ := hrel
    by_cases hit : i < t
    · have hia := HT.out i hit
      have his : i < s.size := by omega
      have hisi : (i : Int) < (s.size : Int) := by omega
      obtain ⟨z, hz⟩ : ∃ z, S[i]? = some z := ⟨S[i]'(by rw [← HL.out]; exact his), List.getElem?_eq_getElem _⟩
      have g := HX.out i z hz his
      have hp := plc_take hz
      rw [← HI.out] at hp
      have hb := HP.out i
      rw [← HI.out] at hb
      have hb1 : x ≤ i + 1 := hb.1
      have hb2 : y ≤ i + 1 := hb.2
      obtain ⟨u, hu⟩ : ∃ u, z.toNat = u := ⟨_, rfl⟩
      rw [hu] at g
      have Y1 : Hid (IntKind.i64.wrap ((x : Int) + 1) = (x : Int) + 1) := Lib.hid (IntWalk.i64_in _ (by omega))
      have Y2 : Hid (wrap64 ((x : Int) + 1) = (x : Int) + 1) := Lib.hid (IntWalk.wrap64_in _ (by omega))
      have Y3 : Hid (IntKind.i64.wrap ((y : Int) + 1) = (y : Int) + 1) := Lib.hid (IntWalk.i64_in _ (by omega))
      have Y4 : Hid (wrap64 ((y : Int) + 1) = (y : Int) + 1) := Lib.hid (IntWalk.wrap64_in _ (by omega))
      unfold plF at hp
      rw [hu] at hp
      by_cases hu10 : u = 10
      · have hub : ((u : Int) == 10) = true := by rw [beq_iff_eq]; omega
        rw [if_pos hu10] at hp
        have HN := Lib.hid hp.symm
        clear hu10 hz hp hb hb1 hb2 hu
        have y1 := Y1.out; have y2 := Y2.out; have y3 := Y3.out; have y4 := Y4.out
        go_wp2_with fail
        clear y1 y2 y3 y4
        go_roundg (t - (i + 1))
        case measure => omega
        case rel => exact ⟨i + 1, x + 1, 1, by omega, rfl, by go_num, rfl, by go_num, HN, rfl⟩
      · have hub : ((u : Int) == 10) = false := by rw [beq_eq_false_iff_ne]; omega
        rw [if_neg hu10] at hp
        have HN := Lib.hid hp.symm
        clear hu10 hz hp hb hb1 hb2 hu
        have y1 := Y1.out; have y2 := Y2.out; have y3 := Y3.out; have y4 := Y4.out
        go_wp2_with fail
        clear y1 y2 y3 y4
        go_roundg (t - (i + 1))
        case measure => omega
        case rel => exact ⟨i + 1, x, y + 1, by omega, rfl, rfl, by go_num, by go_num, HN, rfl⟩
    · obtain rfl : i = t := by omega
      by_cases his : i < s.size
      · have hisi : (i : Int) < (s.size : Int) := by omega
        have hia := HE.out (by rw [← HL.out]; exact his)
        have HF := Lib.hid (HQ.out x y HI.out)
        go_wp2_with fail
        exact HF.out
      · have hisi : ¬ (i : Int) < (s.size : Int) := by omega
        have HF := Lib.hid (HQ.out x y HI.out)
        go_wp2_with fail
        exact HF.out
set_option maxRecDepth 100000 in
set_option maxHeartbeats 4000000 in
theorem scan_big (s : ByteArray) (w : World) (hs : 65536 < s.size) :
    Calls Try.prog 6 #[.string s] w fun e w' => e = .returned (.tuple #[.slice none 0 0, .agg #[.int .i64 21, .int .i64 1, .int .i64 1]]) ∧ Below w.heap.size w w' := by
  have hsi : (65536 : Int) < (s.size : Int) := by omega
  obtain ⟨Q, hQ⟩ : ∃ Q : Ending → World → Prop, (fun (e : Ending) (w' : World) => e = .returned (.tuple #[.slice none 0 0, .agg #[.int .i64 21, .int .i64 1, .int .i64 1]]) ∧ Below w.heap.size w w') = Q := ⟨_, rfl⟩
  rw [hQ]
  have HQ : Hid (∀ w', Below w.heap.size w w' → Q (.returned (.tuple #[.slice none 0 0, .agg #[.int .i64 21, .int .i64 1, .int .i64 1]])) w') := Lib.hid (fun w' h => by rw [← hQ]; exact ⟨rfl, h⟩)
  clear hQ hs
  go_enter Try.func6, Try.ntmps6
  go_wp2_with fail
  have B9 := Blk.new w #[.int .i64 21, .int .i64 1, .int .i64 1] 25
  have E9 := (Below.refl w.heap.size w).alloc (Nat.le_refl _) (.cells #[.int .i64 21, .int .i64 1, .int .i64 1] 25)
  obtain ⟨V9, hV9⟩ : ∃ V9, w.alloc (.cells #[.int .i64 21, .int .i64 1, .int .i64 1] 25) = V9 := ⟨_, rfl⟩
  rw [hV9] at B9 E9 ⊢
  clear hV9
  have e0 := B9.cell 0; have e1 := B9.cell 1; have e2 := B9.cell 2
  refine bodyPost_ret (v := .tuple #[.slice none 0 0, .agg #[.int .i64 21, .int .i64 1, .int .i64 1]]) (by simp [results, Try.results6, go_sem, e0, e1, e2]) rfl ?_
  exact HQ.out V9 E9
end Go.Proofs.Ythchgjjnlnadnaa
