/- The document's bounds of two rows of spans. -/
import Derived.Test.YtiinlidilkdfbaaRows
import Derived.Test.YtiinlidilkdfbaaRowKit
import Derived.Test.YtiinlidilkdfbaaRowS
import Derived.Test.YtiinlidilkdfbaaRowZ
import Derived.Test.YtiinlidilkdfbaaSlicesEq
import Derived.Test.YtiinlidilkdfbaaSlicesEqM
import Derived.Test.YtiinlidilkdfbaaRowL
import Derived.Test.YtiinlidilkdfbaaRowM
import Derived.Test.YtiinlidilkdfbaaMakeI
import Derived.Test.YtiinlidilkdfbaaBlocks
import Derived.Test.YtiinlidilkdfbaaSpanMath
import Derived.Test.YtiinlidilkdfbaaSpanA
import Derived.WalkKit
import Derived.IntWalk
import Derived.Lib.Hide
import Derived.WalkSpells
import Derived.WalkLawsBesides
import Derived.Laws.CopyOwn
import Derived.Laws.MakeOwn
import Derived.Laws.OwnMore
import Derived.Laws.AppendOwnNone
import Derived.OwnWalk
import Derived.BigRegion
import Derived.Deep.LoopGhost
import Derived.Deep.RegionHeld3
import Derived.Deep.QuietTactic
import Derived.BigQuiet
import Derived.Maps.AppendAt
namespace Go.Proofs.Ytiinlidilkdfbaa
open Go.RowKit
set_option linter.unusedSimpArgs false
set_option linter.unusedVariables false
theorem own0S (w : World) : (w.alloc (.cells #[] 26)).ownsRow w.heap.size 26 2 (.slice (some ⟨w.heap.size, 0, none⟩) 0 0) 0 [] :=
  ⟨rfl, Or.inr ⟨w.heap.size, 0, #[], rfl, Nat.le_refl _, heap_alloc_new w _, Nat.le_refl _, Nat.zero_le _, rfl, rfl⟩⟩
theorem own0I (w : World) (B : Nat) : w.ownsRow B 3 1 (.slice none 0 0) 0 [] := ⟨rfl, Or.inl ⟨rfl, rfl⟩⟩
theorem take_isI {w : World} {b o c : Nat} {l : List Int} {k : Nat} (h : RdI w .i64 (some ⟨b, o, none⟩) l) (hk : k ≤ l.length) : RdI w .i64 (some ⟨b, o, none⟩) (l.take k) := fun i hi => by
  rw [List.length_take] at hi
  obtain ⟨a, e, h1, h2, h3⟩ := h i (by omega)
  have ez : zat (l.take k) i = zat l i := by simp [zat, List.getD, List.getElem?_take_of_lt (show i < k by omega)]
  exact ⟨a, e, h1, by rw [ez]; exact h2, by rw [ez]; exact h3⟩
theorem drop_isI {w : World} {b o : Nat} {l : List Int} (k : Nat) (h : RdI w .i64 (some ⟨b, o, none⟩) l) : RdI w .i64 (some ⟨b, o + k, none⟩) (l.drop k) := by
  intro j hj
  rw [List.length_drop] at hj
  obtain ⟨a, ha, h1, h2, h3⟩ := h (k + j) (by omega)
  obtain rfl := Option.some.inj ha
  have e : zat (l.drop k) j = zat l (k + j) := by simp [zat, List.getD, List.getElem?_drop]
  have e2 : ∀ n, (⟨b, o, none⟩ : Addr).add n = ⟨b, o + n, none⟩ := fun n => by unfold Addr.add; split <;> simp_all
  have e3 : ∀ n, (⟨b, o + k, none⟩ : Addr).add n = ⟨b, o + k + n, none⟩ := fun n => by unfold Addr.add; split <;> simp_all
  refine ⟨⟨b, o + k, none⟩, rfl, h1, ?_, by rw [e]; exact h3⟩
  rw [e, e3, Nat.add_assoc, ← e2]
  exact h2
theorem zS_even {L : List (Int × Int)} {i : Nat} (h : i % 2 = 0) : xsL L i = zS L (i / 2) 0 := by unfold xsL zS; rw [if_neg (by omega), if_pos rfl]
theorem zS_odd {L : List (Int × Int)} {i : Nat} (h : i % 2 = 1) : xsL L i = zS L (i / 2) 1 := by unfold xsL zS; rw [if_pos h, if_neg (by omega)]
theorem ins_ne (x : Int) : ∀ l : List Int, insL x l ≠ []
  | [] => by simp [insL]
  | y :: r => by
    unfold insL
    split
    · simp
    · split <;> simp
theorem ints3 (l : List Int) (k : Nat) (x : Int) : ([] ++ (l.take k).map (Value.int .i64) ++ [x].map (Value.int .i64)) ++ (l.drop k).map (Value.int .i64) = (l.take k ++ x :: l.drop k).map (Value.int .i64) := by simp
theorem one_int {w : World} (x : Int) (hx : -9223372036854775808 ≤ x ∧ x ≤ 9223372036854775807) : RdI (w.alloc (.cells #[.int .i64 x] 3)) .i64 (some ⟨w.heap.size, 0, none⟩) [x] := fun i hi => by
  obtain rfl : i = 0 := by simpa using hi
  exact ⟨_, rfl, by simp, by have := (Blk.new w #[.int .i64 x] 3).cell 0; show World.cell? _ ⟨w.heap.size, 0, none⟩ = some (.int .i64 x); exact this, wf_i64_iff.2 hx⟩
/-- all bounds of two rows: what the document makes -/
def BndR (a b : List (Int × Int)) (w : World) (e : Ending) (w' : World) : Prop := ∃ v', e = .returned v' ∧ IsI w' v' (bdL (a ++ b)) ∧ Below w.heap.size w w'
set_option maxRecDepth 100000 in
set_option maxHeartbeats 4000000 in
theorem bounds_any (va vb : Value) (a b : List (Int × Int)) (w : World) (ha : IsS w va a) (hb : IsS w vb b) (hla : a.length ≤ 1000) (hlb : b.length ≤ 1000) :
    Calls Try.prog 30 #[va, vb] w (BndR a b w) := by
  have hwa := zS_in ha; have hwb := zS_in hb
  have HW : Hid (∀ p, p ∈ a ++ b → (-9223372036854775808 ≤ p.1 ∧ p.1 ≤ 9223372036854775807) ∧ (-9223372036854775808 ≤ p.2 ∧ p.2 ≤ 9223372036854775807)) := Lib.hid fun p hp => (List.mem_append.1 hp).elim (hwa p) (hwb p)
  clear hwa hwb
  obtain ⟨A, ca, rfl, ra, a1, a2, a3⟩ := ha
  obtain ⟨B, cb, rfl, rb, b1, b2, b3⟩ := hb
  have HA := Lib.hid ra; have HB := Lib.hid rb
  have hM : maxLen ≤ 9223372036854775807 := by decide
  obtain ⟨n, hn⟩ : ∃ n, a.length = n := ⟨_, rfl⟩
  obtain ⟨m, hm⟩ : ∃ n, b.length = n := ⟨_, rfl⟩
  have HNa := Lib.hid hn; have HNb := Lib.hid hm
  rw [hn] at hla a1 HA ⊢
  rw [hm] at hlb b1 HB ⊢
  have A3 := Lib.hid a3; have B3 := Lib.hid b3
  clear ra rb hn hm a3 b3
  obtain ⟨R, hR⟩ : ∃ R : Ending → World → Prop, BndR a b w = R := ⟨_, rfl⟩
  have HR := Lib.hid hR
  rw [hR]
  clear hR
  go_enter Try.func30, Try.ntmps30
  have ha0 : Below w.heap.size w (w.alloc (.cells #[] 26)) := (Below.refl w.heap.size w).alloc (Nat.le_refl _) _
  go_wp2_with (first
    | (at_builtin; refine append_spans rfl _ _ rfl w.heap.size _ 0 [] rfl (own0S w) A n ca (zS a) rfl (RdZ.kept HA.out ha0) a1 A3.out (by omega) (by simp) ?_; intro v1 w1 o1 q1; have r1 := ha0.trans q1)
    | (at_builtin; refine append_spans rfl _ _ rfl w.heap.size v1 (0 + n) _ rfl o1 B m cb (zS b) rfl (RdZ.kept HB.out r1) b1 B3.out (by omega) r1.size ?_; intro v2 w2 o2 q2))
  have HL : Hid (IsS w2 v2 (a ++ b)) := Lib.hid (by
    refine own_isS (base := w.heap.size) ?_ HW.out
    have e := rowS_app a b
    rw [HNa.out, HNb.out] at e
    rw [List.length_append, HNa.out, HNb.out]
    simpa [e, HNa.out, HNb.out] using o2)
  have HE2 := Lib.hid (r1.trans q2)
  obtain ⟨L, hL⟩ : ∃ L, a ++ b = L := ⟨_, rfl⟩
  have HLL := Lib.hid hL
  have HN : Hid (L.length = n + m) := Lib.hid (by rw [← hL, List.length_append, HNa.out, HNb.out])
  rw [hL] at HL HW
  clear hL o1 o2 q1 q2 r1 ha0
  obtain ⟨AL, cl, rfl, rl, l1, l2, l3⟩ := HL.out
  have HRL := Lib.hid rl
  obtain ⟨N, hN⟩ : ∃ N, L.length = N := ⟨_, rfl⟩
  have HNL := Lib.hid hN
  have hN2 : N ≤ 2000 := by have := HN.out; omega
  rw [hN] at l1 HRL ⊢
  clear rl hN l3 HL a1 a2 b1 b2 hla hlb
  have w2N : IntKind.i64.wrap (2 * (N : Int)) = 2 * (N : Int) := IntWalk.i64_in _ (by omega)
  go_wp2_with fail
  go_loopg [5, 7] (2 * N) (fun g ov i wr => ∃ k : Nat, k ≤ 2 * N ∧ g = 2 * N - k ∧ i = .int .i64 k ∧ Hid (IsI wr ov (bdS L k) ∧ (bdS L k = [] → ov = .slice none 0 0) ∧ Below w.heap.size w wr ∧ Below w2.heap.size w2 wr))
  case atStart => exact ⟨0, by omega, by omega, rfl, Lib.hid ⟨isI_nil _, fun _ => rfl, HE2.out, Below.refl _ _⟩⟩
  case round =>
    obtain ⟨k, hk, rfl, rfl, HI⟩ := hrel
    by_cases h : k < 2 * N
    · have hk1 : (k : Int) < 2 * (N : Int) := by omega
      obtain ⟨h1, h2⟩ : k / 2 < N ∧ k < 4000 := by omega
      obtain ⟨bL, oL, rfl, _, hcell⟩ := rdZ_row (RdZ.kept HRL.out HI.out.2.2.2) (by omega) (by omega)
      have cE := hcell (k / 2) 0 h1 (by omega)
      have cO := hcell (k / 2) 1 h1 (by omega)
      obtain ⟨bI, hbI⟩ : ∃ x, k / 2 = x := ⟨_, rfl⟩
      have td : (k : Int).tdiv 2 = (bI : Int) := by rw [Int.tdiv_eq_ediv_of_nonneg (by omega)]; omega
      obtain ⟨XE, hXE⟩ : ∃ x, zS L (k / 2) 0 = x := ⟨_, rfl⟩
      obtain ⟨XO, hXO⟩ : ∃ x, zS L (k / 2) 1 = x := ⟨_, rfl⟩
      rw [hXE] at cE
      rw [hXO] at cO
      have HXE := Lib.hid hXE; have HXO := Lib.hid hXO
      rw [hbI] at cE cO h1
      have cE : wr.cell? ⟨bL, oL + bI * 2, none⟩ = some (.int .i64 XE) := cE
      have hbw : IntKind.i64.wrap (bI : Int) = bI := IntWalk.i64_in _ (by omega)
      clear hcell hXE hXO
      have GO : ∃ X, xsL L k = X := ⟨_, rfl⟩
      obtain ⟨X, hX⟩ := GO
      have HX := Lib.hid hX
      have hXw : -9223372036854775808 ≤ X ∧ X ≤ 9223372036854775807 := by
        have hp := HW.out _ (getD_mem (L := L) (k := k / 2) (by rw [HNL.out]; omega))
        rw [← hX]; unfold xsL; split
        · exact hp.2
        · exact hp.1
      clear hX
      have hlen := bds_len L k
      have HB1 : Hid (bdS L (k + 1) = insL X (bdS L k)) := Lib.hid (by rw [bdS, HX.out])
      have HS1 : Hid (∀ x, x ∈ bdS L k → -9223372036854775808 ≤ x ∧ x ≤ 9223372036854775807) := Lib.hid fun x hx => by
        obtain ⟨j, hj, e⟩ := (bds_mem L k x).1 hx
        have hp := HW.out _ (getD_mem (L := L) (k := j / 2) (by rw [HNL.out]; omega))
        rw [e]; unfold xsL; split
        · exact hp.2
        · exact hp.1
      obtain ⟨l, hl⟩ : ∃ l, bdS L k = l := ⟨_, rfl⟩
      rw [hl] at HI hlen HB1 HS1
      clear hl
      obtain ⟨⟨Ao, co, rfl, ro, o1, o2, o3⟩, HI2, HI3, HI4⟩ := HI.out
      have HRO := Lib.hid ro
      obtain ⟨p, hp⟩ : ∃ p, l.length = p := ⟨_, rfl⟩
      have HP := Lib.hid hp
      rw [hp] at hlen o1
      have HI2 : l = [] → Value.slice Ao p co = .slice none 0 0 := by rw [← hp]; exact HI2
      rw [hp]
      have H2 := Lib.hid HI2; have H3 := Lib.hid HI3; have H4 := Lib.hid HI4; have HO3 := Lib.hid o3
      clear ro hp HI2 HI3 HI4 HI o3
      rcases Nat.mod_two_eq_zero_or_one k with he | ho
      · have tm : (k : Int).tmod 2 = 0 := by rw [Int.tmod_eq_emod_of_nonneg (by omega)]; omega
        obtain rfl : X = XE := by rw [← HX.out, ← HXE.out, zS_even he]
        clear he hbI
        go_wp2_with fail
        go_loopg [9] p (fun g i wr' => ∃ j : Nat, j ≤ p ∧ g = p - j ∧ i = .int .i64 j ∧ Hid (∀ q, q < j → zat l q < X) ∧ wr' = wr)
        case atStart => exact ⟨0, by omega, by omega, rfl, Lib.hid fun q hq => absurd hq (by omega), rfl⟩
        case round =>
          obtain ⟨j, hj, rfl, rfl, HJ, rfl⟩ := hrel
          by_cases hjp : j < p
          · obtain ⟨b, o, rfl, _, hcell⟩ := rdI_row HRO.out (by rw [HP.out]; omega)
            have c0 := hcell j (by rw [HP.out]; exact hjp)
            obtain ⟨y, hy⟩ : ∃ y, zat l j = y := ⟨_, rfl⟩
            rw [hy] at c0
            have HY := Lib.hid hy
            clear hcell hy
            by_cases hlt : y < X
            · have HJ2 : Hid (∀ q, q < j + 1 → zat l q < X) := Lib.hid fun q hq => by
                by_cases e : q < j
                · exact HJ.out q e
                · obtain rfl : q = j := by omega
                  rw [HY.out]; exact hlt
              go_wp2_with fail
              go_roundg (p - (j + 1))
              case rel => exact ⟨j + 1, by omega, rfl, by go_num, HJ2, rfl⟩
              case measure => omega
            · by_cases heq : y = X
              · have HIN : Hid (insL X l = l) := Lib.hid (by
                  rw [ins_at X l j (by rw [HP.out]; omega) HJ.out (fun _ => by rw [HY.out]; exact hlt), if_pos ⟨by rw [HP.out]; exact hjp, by rw [HY.out]; exact heq⟩])
                subst heq
                go_wp2_with fail
                go_roundg (2 * N - (k + 1))
                case rel => exact ⟨k + 1, by omega, rfl, by go_num, Lib.hid (by rw [HB1.out, HIN.out]; exact ⟨⟨some ⟨b, o, none⟩, co, by rw [HP.out], HRO.out, by rw [HP.out]; exact o1, o2, HO3.out⟩, fun e => (by have := HP.out; rw [e] at this; simp at this; omega), H3.out, H4.out⟩)⟩
                case measure => omega
              · have hne : (y == X) = false := by rw [beq_eq_false_iff_ne]; exact heq
                have HIN : Hid (insL X l = l.take j ++ X :: l.drop j) := Lib.hid (by
                  rw [ins_at X l j (by rw [HP.out]; omega) HJ.out (fun _ => by rw [HY.out]; exact hlt), if_neg (fun h => heq (by rw [← HY.out]; exact h.2))])
                have hjc : (j : Int) ≤ (co : Int) := by omega
                have hjc2 : (j : Int) < (co : Int) := by omega
                have lt1 : (l.take j).length = j := by rw [List.length_take, HP.out]; omega
                have ld1 : (l.drop j).length = p - j := by rw [List.length_drop, HP.out]
                have T1 := take_isI (c := co) HRO.out (k := j) (by rw [HP.out]; omega)
                have D1 := drop_isI j HRO.out
                have HT := Lib.hid lt1; have HDl := Lib.hid ld1; have HTT := Lib.hid T1; have HDD := Lib.hid D1
                clear lt1 ld1 T1 D1 cE cO
                go_wp2_with (first
                  | (at_builtin; refine append_ints rfl _ _ rfl wr.heap.size (.slice none 0 0) 0 [] rfl (own0I wr _) (some ⟨b, o, none⟩) j co (l.take j) rfl HT.out HTT.out (by omega) (fun e => by cases e) (by omega) (Nat.le_refl _) ?_; intro n1 u1 p1 q1)
                  | (at_builtin; refine append_ints rfl _ _ rfl wr.heap.size n1 (0 + j) _ rfl (p1.alloc _) (some ⟨_, 0, none⟩) 1 1 [X] rfl rfl (one_int X hXw) (by omega) (fun e => by cases e) (by omega) (by have := q1.size; simp; omega) ?_; intro n2 u2 p2 q2; have r2 := (q1.alloc q1.size (.cells #[.int .i64 X] 3)).trans q2)
                  | (at_builtin; refine append_ints rfl _ _ rfl wr.heap.size n2 (0 + j + 1) _ rfl p2 (some ⟨b, o + j, none⟩) (p - j) (co - j) (l.drop j) rfl HDl.out (RdI.kept HDD.out r2) (by omega) (fun e => by cases e) (by omega) r2.size ?_; intro n3 u3 p3 q3))
                have HB4 : Hid (Below wr.heap.size wr u3) := Lib.hid (r2.trans q3)
                have HO4 : Hid (IsI u3 n3 (bdS L (k + 1))) := Lib.hid (by
                  refine own_isI (base := wr.heap.size) ?_ ?_
                  · rw [HB1.out, HIN.out]
                    rw [ints3] at p3
                    have e : (l.take j ++ X :: l.drop j).length = 0 + j + 1 + (p - j) := by rw [List.length_append, List.length_cons, HT.out, HDl.out]; omega
                    rw [e]; exact p3
                  · rw [HB1.out]
                    intro x hx
                    rcases (ins_mem X l x).1 hx with rfl | hx
                    · exact hXw
                    · exact HS1.out x hx)
                clear p1 p2 p3 q1 q2 q3 r2
                go_wp2_with fail
                go_roundg (2 * N - (k + 1))
                case rel => exact ⟨k + 1, by omega, rfl, by go_num, Lib.hid ⟨HO4.out, fun e => absurd (HB1.out.symm.trans e) (ins_ne X l), H3.out.trans (HB4.out.mono H3.out.size), H4.out.trans (HB4.out.mono H4.out.size)⟩⟩
                case measure => omega
          · obtain rfl : j = p := by omega
            clear hjp
            have HIN : Hid (insL X l = l ++ [X]) := Lib.hid (by
              rw [ins_at X l j (by rw [HP.out]; omega) HJ.out (fun h => absurd h (by rw [HP.out]; omega)), if_neg (fun h => absurd h.1 (by rw [HP.out]; omega)), List.take_of_length_le (by rw [HP.out]; omega), List.drop_eq_nil_of_le (by rw [HP.out]; omega)])
            clear cE cO
            by_cases hl0 : l = []
            · subst hl0
              obtain ⟨rfl, rfl, rfl⟩ : Ao = none ∧ j = 0 ∧ co = 0 := by
                have := H2.out rfl
                simp only [Value.slice.injEq] at this
                exact this
              go_wp2_with (first
                | (at_builtin; refine append_ints rfl _ _ rfl wr.heap.size (.slice none 0 0) 0 [] rfl (own0I wr _) none 0 0 [] rfl rfl (fun i hi => absurd hi (by simp)) (by omega) (fun _ => rfl) (by omega) (Nat.le_refl _) ?_; intro n1 u1 p1 q1)
                | (at_builtin; refine append_ints rfl _ _ rfl wr.heap.size n1 (0 + 0) _ rfl (p1.alloc _) (some ⟨_, 0, none⟩) 1 1 [X] rfl rfl (one_int X hXw) (by omega) (fun e => by cases e) (by omega) (by have := q1.size; simp; omega) ?_; intro n2 u2 p2 q2; have r2 := (q1.alloc q1.size (.cells #[.int .i64 X] 3)).trans q2)
                | (at_builtin; refine append_ints rfl _ _ rfl wr.heap.size n2 (0 + 0 + 1) _ rfl p2 none 0 0 [] rfl rfl (fun i hi => absurd hi (by simp)) (by omega) (fun _ => rfl) (by omega) r2.size ?_; intro n3 u3 p3 q3))
              have HB4 : Hid (Below wr.heap.size wr u3) := Lib.hid (r2.trans q3)
              have HO4 : Hid (IsI u3 n3 (bdS L (k + 1))) := Lib.hid (by
                refine own_isI (base := wr.heap.size) ?_ ?_
                · rw [HB1.out, HIN.out]
                  simpa using p3
                · rw [HB1.out, HIN.out]
                  intro x hx
                  obtain rfl : x = X := by simpa using hx
                  exact hXw)
              clear p1 p2 p3 q1 q2 q3 r2
              go_wp2_with fail
              go_roundg (2 * N - (k + 1))
              case rel => exact ⟨k + 1, by omega, rfl, by go_num, Lib.hid ⟨HO4.out, fun e => absurd (HB1.out.symm.trans e) (ins_ne X _), H3.out.trans (HB4.out.mono H3.out.size), H4.out.trans (HB4.out.mono H4.out.size)⟩⟩
              case measure => omega
            · have hj0 : 0 < j := by
                rcases Nat.eq_zero_or_pos j with e | e
                · exact absurd (List.eq_nil_of_length_eq_zero (HP.out.trans e)) hl0
                · exact e
              obtain ⟨b, o, rfl, _, hcell⟩ := rdI_row HRO.out (by rw [HP.out]; omega)
              clear hcell
              have hjc : (j : Int) ≤ (co : Int) := by omega
              have lt1 : (l.take j).length = j := by rw [List.length_take, HP.out]; omega
              have T1 := take_isI (c := co) HRO.out (k := j) (by rw [HP.out]; omega)
              have HT := Lib.hid lt1; have HTT := Lib.hid T1
              clear lt1 T1
              have FIN : ∀ (n3 : Value) (u3 : World), u3.ownsRow wr.heap.size 3 1 n3 (0 + j + 1 + 0) ([] ++ (l.take j).map (Value.int .i64) ++ [X].map (Value.int .i64) ++ [].map (Value.int .i64)) → Below wr.heap.size wr u3 → IsI u3 n3 (bdS L (k + 1)) := fun n3 u3 p3 _ => by
                refine own_isI (base := wr.heap.size) ?_ ?_
                · rw [HB1.out, HIN.out]
                  rw [List.take_of_length_le (by rw [HP.out]; omega)] at p3
                  rw [List.length_append, HP.out]
                  simpa using p3
                · rw [HB1.out]
                  intro x hx
                  rcases (ins_mem X l x).1 hx with rfl | hx
                  · exact hXw
                  · exact HS1.out x hx
              have HFIN := Lib.hid FIN
              clear FIN
              by_cases hjc2 : j < co
              · have hjc3 : (j : Int) < (co : Int) := by omega
                go_wp2_with (first
                  | (at_builtin; refine append_ints rfl _ _ rfl wr.heap.size (.slice none 0 0) 0 [] rfl (own0I wr _) (some ⟨b, o, none⟩) j co (l.take j) rfl HT.out HTT.out (by omega) (fun e => by cases e) (by omega) (Nat.le_refl _) ?_; intro n1 u1 p1 q1)
                  | (at_builtin; refine append_ints rfl _ _ rfl wr.heap.size n1 (0 + j) _ rfl (p1.alloc _) (some ⟨_, 0, none⟩) 1 1 [X] rfl rfl (one_int X hXw) (by omega) (fun e => by cases e) (by omega) (by have := q1.size; simp; omega) ?_; intro n2 u2 p2 q2; have r2 := (q1.alloc q1.size (.cells #[.int .i64 X] 3)).trans q2)
                  | (at_builtin; refine append_ints rfl _ _ rfl wr.heap.size n2 (0 + j + 1) _ rfl p2 (some ⟨b, o + j, none⟩) 0 (co - j) [] rfl rfl (fun i hi => absurd hi (by simp)) (by omega) (fun e => by cases e) (by omega) r2.size ?_; intro n3 u3 p3 q3))
                have HB4 : Hid (Below wr.heap.size wr u3) := Lib.hid (r2.trans q3)
                have HO4 : Hid (IsI u3 n3 (bdS L (k + 1))) := Lib.hid (HFIN.out _ _ p3 HB4.out)
                clear p1 p2 p3 q1 q2 q3 r2
                go_wp2_with fail
                go_roundg (2 * N - (k + 1))
                case rel => exact ⟨k + 1, by omega, rfl, by go_num, Lib.hid ⟨HO4.out, fun e => absurd (HB1.out.symm.trans e) (ins_ne X _), H3.out.trans (HB4.out.mono H3.out.size), H4.out.trans (HB4.out.mono H4.out.size)⟩⟩
                case measure => omega
              · obtain rfl : j = co := by omega
                clear hjc2
                go_wp2_with (first
                  | (at_builtin; refine append_ints rfl _ _ rfl wr.heap.size (.slice none 0 0) 0 [] rfl (own0I wr _) (some ⟨b, o, none⟩) j j (l.take j) rfl HT.out HTT.out (by omega) (fun e => by cases e) (by omega) (Nat.le_refl _) ?_; intro n1 u1 p1 q1)
                  | (at_builtin; refine append_ints rfl _ _ rfl wr.heap.size n1 (0 + j) _ rfl (p1.alloc _) (some ⟨_, 0, none⟩) 1 1 [X] rfl rfl (one_int X hXw) (by omega) (fun e => by cases e) (by omega) (by have := q1.size; simp; omega) ?_; intro n2 u2 p2 q2; have r2 := (q1.alloc q1.size (.cells #[.int .i64 X] 3)).trans q2)
                  | (at_builtin; refine append_ints rfl _ _ rfl wr.heap.size n2 (0 + j + 1) _ rfl p2 (some ⟨b, o, none⟩) 0 0 [] rfl rfl (fun i hi => absurd hi (by simp)) (by omega) (fun e => by cases e) (by omega) r2.size ?_; intro n3 u3 p3 q3))
                have HB4 : Hid (Below wr.heap.size wr u3) := Lib.hid (r2.trans q3)
                have HO4 : Hid (IsI u3 n3 (bdS L (k + 1))) := Lib.hid (HFIN.out _ _ p3 HB4.out)
                clear p1 p2 p3 q1 q2 q3 r2
                go_wp2_with fail
                go_roundg (2 * N - (k + 1))
                case rel => exact ⟨k + 1, by omega, rfl, by go_num, Lib.hid ⟨HO4.out, fun e => absurd (HB1.out.symm.trans e) (ins_ne X _), H3.out.trans (HB4.out.mono H3.out.size), H4.out.trans (HB4.out.mono H4.out.size)⟩⟩
                case measure => omega
      · have tm : (k : Int).tmod 2 = 1 := by rw [Int.tmod_eq_emod_of_nonneg (by omega)]; omega
        obtain rfl : X = XO := by rw [← HX.out, ← HXO.out, zS_odd ho]
        clear ho hbI
        go_wp2_with fail
        go_loopg [9] p (fun g i wr' => ∃ j : Nat, j ≤ p ∧ g = p - j ∧ i = .int .i64 j ∧ Hid (∀ q, q < j → zat l q < X) ∧ wr' = wr)
        case atStart => exact ⟨0, by omega, by omega, rfl, Lib.hid fun q hq => absurd hq (by omega), rfl⟩
        case round =>
          obtain ⟨j, hj, rfl, rfl, HJ, rfl⟩ := hrel
          by_cases hjp : j < p
          · obtain ⟨b, o, rfl, _, hcell⟩ := rdI_row HRO.out (by rw [HP.out]; omega)
            have c0 := hcell j (by rw [HP.out]; exact hjp)
            obtain ⟨y, hy⟩ : ∃ y, zat l j = y := ⟨_, rfl⟩
            rw [hy] at c0
            have HY := Lib.hid hy
            clear hcell hy
            by_cases hlt : y < X
            · have HJ2 : Hid (∀ q, q < j + 1 → zat l q < X) := Lib.hid fun q hq => by
                by_cases e : q < j
                · exact HJ.out q e
                · obtain rfl : q = j := by omega
                  rw [HY.out]; exact hlt
              go_wp2_with fail
              go_roundg (p - (j + 1))
              case rel => exact ⟨j + 1, by omega, rfl, by go_num, HJ2, rfl⟩
              case measure => omega
            · by_cases heq : y = X
              · have HIN : Hid (insL X l = l) := Lib.hid (by
                  rw [ins_at X l j (by rw [HP.out]; omega) HJ.out (fun _ => by rw [HY.out]; exact hlt), if_pos ⟨by rw [HP.out]; exact hjp, by rw [HY.out]; exact heq⟩])
                subst heq
                go_wp2_with fail
                go_roundg (2 * N - (k + 1))
                case rel => exact ⟨k + 1, by omega, rfl, by go_num, Lib.hid (by rw [HB1.out, HIN.out]; exact ⟨⟨some ⟨b, o, none⟩, co, by rw [HP.out], HRO.out, by rw [HP.out]; exact o1, o2, HO3.out⟩, fun e => (by have := HP.out; rw [e] at this; simp at this; omega), H3.out, H4.out⟩)⟩
                case measure => omega
              · have hne : (y == X) = false := by rw [beq_eq_false_iff_ne]; exact heq
                have HIN : Hid (insL X l = l.take j ++ X :: l.drop j) := Lib.hid (by
                  rw [ins_at X l j (by rw [HP.out]; omega) HJ.out (fun _ => by rw [HY.out]; exact hlt), if_neg (fun h => heq (by rw [← HY.out]; exact h.2))])
                have hjc : (j : Int) ≤ (co : Int) := by omega
                have hjc2 : (j : Int) < (co : Int) := by omega
                have lt1 : (l.take j).length = j := by rw [List.length_take, HP.out]; omega
                have ld1 : (l.drop j).length = p - j := by rw [List.length_drop, HP.out]
                have T1 := take_isI (c := co) HRO.out (k := j) (by rw [HP.out]; omega)
                have D1 := drop_isI j HRO.out
                have HT := Lib.hid lt1; have HDl := Lib.hid ld1; have HTT := Lib.hid T1; have HDD := Lib.hid D1
                clear lt1 ld1 T1 D1 cE cO
                go_wp2_with (first
                  | (at_builtin; refine append_ints rfl _ _ rfl wr.heap.size (.slice none 0 0) 0 [] rfl (own0I wr _) (some ⟨b, o, none⟩) j co (l.take j) rfl HT.out HTT.out (by omega) (fun e => by cases e) (by omega) (Nat.le_refl _) ?_; intro n1 u1 p1 q1)
                  | (at_builtin; refine append_ints rfl _ _ rfl wr.heap.size n1 (0 + j) _ rfl (p1.alloc _) (some ⟨_, 0, none⟩) 1 1 [X] rfl rfl (one_int X hXw) (by omega) (fun e => by cases e) (by omega) (by have := q1.size; simp; omega) ?_; intro n2 u2 p2 q2; have r2 := (q1.alloc q1.size (.cells #[.int .i64 X] 3)).trans q2)
                  | (at_builtin; refine append_ints rfl _ _ rfl wr.heap.size n2 (0 + j + 1) _ rfl p2 (some ⟨b, o + j, none⟩) (p - j) (co - j) (l.drop j) rfl HDl.out (RdI.kept HDD.out r2) (by omega) (fun e => by cases e) (by omega) r2.size ?_; intro n3 u3 p3 q3))
                have HB4 : Hid (Below wr.heap.size wr u3) := Lib.hid (r2.trans q3)
                have HO4 : Hid (IsI u3 n3 (bdS L (k + 1))) := Lib.hid (by
                  refine own_isI (base := wr.heap.size) ?_ ?_
                  · rw [HB1.out, HIN.out]
                    rw [ints3] at p3
                    have e : (l.take j ++ X :: l.drop j).length = 0 + j + 1 + (p - j) := by rw [List.length_append, List.length_cons, HT.out, HDl.out]; omega
                    rw [e]; exact p3
                  · rw [HB1.out]
                    intro x hx
                    rcases (ins_mem X l x).1 hx with rfl | hx
                    · exact hXw
                    · exact HS1.out x hx)
                clear p1 p2 p3 q1 q2 q3 r2
                go_wp2_with fail
                go_roundg (2 * N - (k + 1))
                case rel => exact ⟨k + 1, by omega, rfl, by go_num, Lib.hid ⟨HO4.out, fun e => absurd (HB1.out.symm.trans e) (ins_ne X l), H3.out.trans (HB4.out.mono H3.out.size), H4.out.trans (HB4.out.mono H4.out.size)⟩⟩
                case measure => omega
          · obtain rfl : j = p := by omega
            clear hjp
            have HIN : Hid (insL X l = l ++ [X]) := Lib.hid (by
              rw [ins_at X l j (by rw [HP.out]; omega) HJ.out (fun h => absurd h (by rw [HP.out]; omega)), if_neg (fun h => absurd h.1 (by rw [HP.out]; omega)), List.take_of_length_le (by rw [HP.out]; omega), List.drop_eq_nil_of_le (by rw [HP.out]; omega)])
            clear cE cO
            by_cases hl0 : l = []
            · subst hl0
              obtain ⟨rfl, rfl, rfl⟩ : Ao = none ∧ j = 0 ∧ co = 0 := by
                have := H2.out rfl
                simp only [Value.slice.injEq] at this
                exact this
              go_wp2_with (first
                | (at_builtin; refine append_ints rfl _ _ rfl wr.heap.size (.slice none 0 0) 0 [] rfl (own0I wr _) none 0 0 [] rfl rfl (fun i hi => absurd hi (by simp)) (by omega) (fun _ => rfl) (by omega) (Nat.le_refl _) ?_; intro n1 u1 p1 q1)
                | (at_builtin; refine append_ints rfl _ _ rfl wr.heap.size n1 (0 + 0) _ rfl (p1.alloc _) (some ⟨_, 0, none⟩) 1 1 [X] rfl rfl (one_int X hXw) (by omega) (fun e => by cases e) (by omega) (by have := q1.size; simp; omega) ?_; intro n2 u2 p2 q2; have r2 := (q1.alloc q1.size (.cells #[.int .i64 X] 3)).trans q2)
                | (at_builtin; refine append_ints rfl _ _ rfl wr.heap.size n2 (0 + 0 + 1) _ rfl p2 none 0 0 [] rfl rfl (fun i hi => absurd hi (by simp)) (by omega) (fun _ => rfl) (by omega) r2.size ?_; intro n3 u3 p3 q3))
              have HB4 : Hid (Below wr.heap.size wr u3) := Lib.hid (r2.trans q3)
              have HO4 : Hid (IsI u3 n3 (bdS L (k + 1))) := Lib.hid (by
                refine own_isI (base := wr.heap.size) ?_ ?_
                · rw [HB1.out, HIN.out]
                  simpa using p3
                · rw [HB1.out, HIN.out]
                  intro x hx
                  obtain rfl : x = X := by simpa using hx
                  exact hXw)
              clear p1 p2 p3 q1 q2 q3 r2
              go_wp2_with fail
              go_roundg (2 * N - (k + 1))
              case rel => exact ⟨k + 1, by omega, rfl, by go_num, Lib.hid ⟨HO4.out, fun e => absurd (HB1.out.symm.trans e) (ins_ne X _), H3.out.trans (HB4.out.mono H3.out.size), H4.out.trans (HB4.out.mono H4.out.size)⟩⟩
              case measure => omega
            · have hj0 : 0 < j := by
                rcases Nat.eq_zero_or_pos j with e | e
                · exact absurd (List.eq_nil_of_length_eq_zero (HP.out.trans e)) hl0
                · exact e
              obtain ⟨b, o, rfl, _, hcell⟩ := rdI_row HRO.out (by rw [HP.out]; omega)
              clear hcell
              have hjc : (j : Int) ≤ (co : Int) := by omega
              have lt1 : (l.take j).length = j := by rw [List.length_take, HP.out]; omega
              have T1 := take_isI (c := co) HRO.out (k := j) (by rw [HP.out]; omega)
              have HT := Lib.hid lt1; have HTT := Lib.hid T1
              clear lt1 T1
              have FIN : ∀ (n3 : Value) (u3 : World), u3.ownsRow wr.heap.size 3 1 n3 (0 + j + 1 + 0) ([] ++ (l.take j).map (Value.int .i64) ++ [X].map (Value.int .i64) ++ [].map (Value.int .i64)) → Below wr.heap.size wr u3 → IsI u3 n3 (bdS L (k + 1)) := fun n3 u3 p3 _ => by
                refine own_isI (base := wr.heap.size) ?_ ?_
                · rw [HB1.out, HIN.out]
                  rw [List.take_of_length_le (by rw [HP.out]; omega)] at p3
                  rw [List.length_append, HP.out]
                  simpa using p3
                · rw [HB1.out]
                  intro x hx
                  rcases (ins_mem X l x).1 hx with rfl | hx
                  · exact hXw
                  · exact HS1.out x hx
              have HFIN := Lib.hid FIN
              clear FIN
              by_cases hjc2 : j < co
              · have hjc3 : (j : Int) < (co : Int) := by omega
                go_wp2_with (first
                  | (at_builtin; refine append_ints rfl _ _ rfl wr.heap.size (.slice none 0 0) 0 [] rfl (own0I wr _) (some ⟨b, o, none⟩) j co (l.take j) rfl HT.out HTT.out (by omega) (fun e => by cases e) (by omega) (Nat.le_refl _) ?_; intro n1 u1 p1 q1)
                  | (at_builtin; refine append_ints rfl _ _ rfl wr.heap.size n1 (0 + j) _ rfl (p1.alloc _) (some ⟨_, 0, none⟩) 1 1 [X] rfl rfl (one_int X hXw) (by omega) (fun e => by cases e) (by omega) (by have := q1.size; simp; omega) ?_; intro n2 u2 p2 q2; have r2 := (q1.alloc q1.size (.cells #[.int .i64 X] 3)).trans q2)
                  | (at_builtin; refine append_ints rfl _ _ rfl wr.heap.size n2 (0 + j + 1) _ rfl p2 (some ⟨b, o + j, none⟩) 0 (co - j) [] rfl rfl (fun i hi => absurd hi (by simp)) (by omega) (fun e => by cases e) (by omega) r2.size ?_; intro n3 u3 p3 q3))
                have HB4 : Hid (Below wr.heap.size wr u3) := Lib.hid (r2.trans q3)
                have HO4 : Hid (IsI u3 n3 (bdS L (k + 1))) := Lib.hid (HFIN.out _ _ p3 HB4.out)
                clear p1 p2 p3 q1 q2 q3 r2
                go_wp2_with fail
                go_roundg (2 * N - (k + 1))
                case rel => exact ⟨k + 1, by omega, rfl, by go_num, Lib.hid ⟨HO4.out, fun e => absurd (HB1.out.symm.trans e) (ins_ne X _), H3.out.trans (HB4.out.mono H3.out.size), H4.out.trans (HB4.out.mono H4.out.size)⟩⟩
                case measure => omega
              · obtain rfl : j = co := by omega
                clear hjc2
                go_wp2_with (first
                  | (at_builtin; refine append_ints rfl _ _ rfl wr.heap.size (.slice none 0 0) 0 [] rfl (own0I wr _) (some ⟨b, o, none⟩) j j (l.take j) rfl HT.out HTT.out (by omega) (fun e => by cases e) (by omega) (Nat.le_refl _) ?_; intro n1 u1 p1 q1)
                  | (at_builtin; refine append_ints rfl _ _ rfl wr.heap.size n1 (0 + j) _ rfl (p1.alloc _) (some ⟨_, 0, none⟩) 1 1 [X] rfl rfl (one_int X hXw) (by omega) (fun e => by cases e) (by omega) (by have := q1.size; simp; omega) ?_; intro n2 u2 p2 q2; have r2 := (q1.alloc q1.size (.cells #[.int .i64 X] 3)).trans q2)
                  | (at_builtin; refine append_ints rfl _ _ rfl wr.heap.size n2 (0 + j + 1) _ rfl p2 (some ⟨b, o, none⟩) 0 0 [] rfl rfl (fun i hi => absurd hi (by simp)) (by omega) (fun e => by cases e) (by omega) r2.size ?_; intro n3 u3 p3 q3))
                have HB4 : Hid (Below wr.heap.size wr u3) := Lib.hid (r2.trans q3)
                have HO4 : Hid (IsI u3 n3 (bdS L (k + 1))) := Lib.hid (HFIN.out _ _ p3 HB4.out)
                clear p1 p2 p3 q1 q2 q3 r2
                go_wp2_with fail
                go_roundg (2 * N - (k + 1))
                case rel => exact ⟨k + 1, by omega, rfl, by go_num, Lib.hid ⟨HO4.out, fun e => absurd (HB1.out.symm.trans e) (ins_ne X _), H3.out.trans (HB4.out.mono H3.out.size), H4.out.trans (HB4.out.mono H4.out.size)⟩⟩
                case measure => omega
    · have hkk : k = 2 * N := by omega
      have hk1 : ¬ (k : Int) < 2 * (N : Int) := by omega
      have HKK := Lib.hid hkk
      have hk2 : decide ((k : Int) < 2 * (N : Int)) = false := by simpa using hk1
      clear hk hkk
      go_wp2_with fail
      rw [← HR.out]
      exact ⟨_, rfl, by rw [HLL.out]; unfold bdL; rw [HNL.out, ← HKK.out]; exact HI.out.1, HI.out.2.2.1⟩
end Go.Proofs.Ytiinlidilkdfbaa
