/- Rows of spans and of ints as values; appends; the document's Has. -/
import Derived.Test.YtiinlidilkdfbaaRows
import Derived.Test.YtiinlidilkdfbaaRowKit
import Derived.Test.YtiinlidilkdfbaaRowS
import Derived.Test.YtiinlidilkdfbaaRowZ
import Derived.Test.YtiinlidilkdfbaaSlicesEq
import Derived.Test.YtiinlidilkdfbaaSlicesEqM
import Derived.Test.YtiinlidilkdfbaaRowL
import Derived.Test.YtiinlidilkdfbaaRowM
import Derived.Test.YtiinlidilkdfbaaMakeI
import Derived.Test.YtiinlidilkdfbaaBlocks
import Derived.Test.YtiinlidilkdfbaaSpanMath
import Derived.WalkKit
import Derived.IntWalk
import Derived.Lib.Hide
import Derived.WalkSpells
import Derived.WalkLawsBesides
import Derived.Laws.CopyOwn
import Derived.Laws.MakeOwn
import Derived.Laws.OwnMore
import Derived.Laws.AppendOwnNone
import Derived.OwnWalk
import Derived.BigRegion
import Derived.Deep.LoopGhost
import Derived.Deep.RegionHeld3
import Derived.Deep.QuietTactic
import Derived.BigQuiet
import Derived.Maps.AppendAt
namespace Go.Proofs.Ytiinlidilkdfbaa
open Go.RowKit
set_option linter.unusedSimpArgs false
set_option linter.unusedVariables false
/-- a row of spans, number by number -/
def zS (L : List (Int × Int)) (i j : Nat) : Int := if j = 0 then (L.getD i (0, 0)).1 else (L.getD i (0, 0)).2
/-- a value that is a row of spans, of ints -/
def IsS (w : World) (v : Value) (L : List (Int × Int)) : Prop := ∃ A c, v = .slice A L.length c ∧ RdZ w 2 A L.length (zS L) ∧ L.length ≤ c ∧ c ≤ maxLen ∧ (A = none → c = 0)
def IsI (w : World) (v : Value) (l : List Int) : Prop := ∃ A c, v = .slice A l.length c ∧ RdI w .i64 A l ∧ l.length ≤ c ∧ c ≤ maxLen ∧ (A = none → c = 0)
theorem IsS.kept {w w' : World} {v : Value} {L : List (Int × Int)} (h : IsS w v L) (hb : Below w.heap.size w w') : IsS w' v L := by
  obtain ⟨A, c, h1, h2, h3⟩ := h; exact ⟨A, c, h1, RdZ.kept h2 hb, h3⟩
theorem IsI.kept {w w' : World} {v : Value} {l : List Int} (h : IsI w v l) (hb : Below w.heap.size w w') : IsI w' v l := by
  obtain ⟨A, c, h1, h2, h3⟩ := h; exact ⟨A, c, h1, RdI.kept h2 hb, h3⟩
theorem isS_nil (w : World) : IsS w (.slice none 0 0) [] := ⟨none, 0, rfl, fun i hi => absurd hi (by simp), by simp, by simp [maxLen], fun _ => rfl⟩
theorem isI_nil (w : World) : IsI w (.slice none 0 0) [] := ⟨none, 0, rfl, fun i hi => absurd hi (by simp), by simp, by simp [maxLen], fun _ => rfl⟩
theorem rdZ_congr {w : World} {m n : Nat} {A : Option Addr} {z z' : Nat → Nat → Int} (h : RdZ w m A n z) (he : ∀ i j, i < n → j < m → z i j = z' i j) : RdZ w m A n z' := fun i hi => by
  obtain ⟨a, e, hlt, hc⟩ := h i hi
  exact ⟨a, e, hlt, fun j hj => by rw [← he i j hi hj]; exact hc j hj⟩
/-- a row that came in, as a list -/
def listZ (z : Nat → Nat → Int) (n : Nat) : List (Int × Int) := (List.range n).map fun i => (z i 0, z i 1)
theorem listZ_len (z : Nat → Nat → Int) (n : Nat) : (listZ z n).length = n := by simp [listZ]
theorem listZ_at (z : Nat → Nat → Int) (n i j : Nat) (hi : i < n) (hj : j < 2) : zS (listZ z n) i j = z i j := by
  have e : (listZ z n).getD i (0, 0) = (z i 0, z i 1) := by
    rw [List.getD_eq_getElem?_getD, List.getElem?_eq_getElem (by rw [listZ_len]; exact hi)]
    simp [listZ]
  unfold zS
  rw [e]
  rcases j with _ | _ | j
  · rfl
  · rfl
  · omega
theorem isS_arg {w : World} {A : Option Addr} {n c : Nat} {z : Nat → Nat → Int} (h : RdZ w 2 A n z) (h1 : n ≤ c) (h2 : c ≤ maxLen) (h3 : A = none → c = 0) : IsS w (.slice A n c) (listZ z n) :=
  ⟨A, c, by rw [listZ_len], by rw [listZ_len]; exact rdZ_congr h (fun i j hi hj => (listZ_at z n i j hi hj).symm), by rw [listZ_len]; exact h1, h2, h3⟩
theorem wf_i64_iff {x : Int} : (Lit.int .i64 x).wf = true ↔ -9223372036854775808 ≤ x ∧ x ≤ 9223372036854775807 := by
  constructor
  · exact bounds_i64
  · intro h
    have e1 : IntKind.i64.min = -9223372036854775808 := by decide
    have e2 : IntKind.i64.max = 9223372036854775807 := by decide
    show (decide (IntKind.i64.min ≤ x) && decide (x ≤ IntKind.i64.max)) = true
    rw [e1, e2]
    simp [h.1, h.2]
theorem zS_in {w : World} {v : Value} {L : List (Int × Int)} (h : IsS w v L) : ∀ p, p ∈ L → (-9223372036854775808 ≤ p.1 ∧ p.1 ≤ 9223372036854775807) ∧ (-9223372036854775808 ≤ p.2 ∧ p.2 ≤ 9223372036854775807) := fun p hp => by
  obtain ⟨A, c, _, hr, _⟩ := h
  obtain ⟨i, hi, e⟩ := List.getElem_of_mem hp
  have eg : L.getD i (0, 0) = p := by rw [List.getD_eq_getElem?_getD, List.getElem?_eq_getElem hi]; exact e
  obtain ⟨_, _, _, hc⟩ := hr i hi
  have h0 := bounds_i64 (hc 0 (by omega)).2
  have h1 := bounds_i64 (hc 1 (by omega)).2
  unfold zS at h0 h1
  rw [eg] at h0 h1
  exact ⟨h0, h1⟩
theorem zS_app (L M : List (Int × Int)) (i j : Nat) : zS (L ++ M) i j = if i < L.length then zS L i j else zS M (i - L.length) j := by
  unfold zS
  by_cases h : i < L.length
  · rw [if_pos h, List.getD_eq_getElem?_getD, List.getElem?_append_left h, ← List.getD_eq_getElem?_getD]
  · rw [if_neg h, List.getD_eq_getElem?_getD, List.getElem?_append_right (by omega), ← List.getD_eq_getElem?_getD]
theorem rowS_app (L M : List (Int × Int)) : rowM 2 (zS L) L.length ++ rowM 2 (zS M) M.length = rowM 2 (zS (L ++ M)) (L ++ M).length := by
  rw [List.length_append]
  have key : ∀ k, rowM 2 (zS L) L.length ++ rowM 2 (zS M) k = rowM 2 (zS (L ++ M)) (L.length + k) := fun k => by
    induction k with
    | zero => rw [rowM_zero, List.append_nil]; exact rowM_congr (fun i j hi hj => by rw [zS_app, if_pos (by omega)])
    | succ k ih =>
      rw [rowM_succ, ← List.append_assoc, ih, ← Nat.add_assoc, rowM_succ]
      congr 1
      refine List.map_congr_left fun j hj => ?_
      rw [zS_app, if_neg (by omega), Nat.add_sub_cancel_left]
  exact key M.length
theorem rdZ_news {w : World} {a : Addr} {n : Nat} {z : Nat → Nat → Int} (h : RdZ w 2 (some a) n z) : ∀ j u, (rowM 2 z n)[j]? = some u → w.cell? (a.add j) = some u := by
  intro j u hu
  have hj : j < n * 2 := by
    rcases Nat.lt_or_ge j (n * 2) with h | h
    · exact h
    · rw [List.getElem?_eq_none (by rw [rowM_len]; exact h)] at hu; cases hu
  have e : j = j / 2 * 2 + j % 2 := by omega
  have hg := rowM_get (m := 2) (n := n) (z := z) (i := j / 2) (j := j % 2) (by omega) (by omega)
  rw [← e, hu] at hg
  obtain ⟨a', ea, _, hc⟩ := h (j / 2) (by omega)
  cases ea
  have := (hc (j % 2) (by omega)).1
  rw [← e] at this
  rw [this, ← hg]
theorem rowM_cells1 (z : Nat → Nat → Int) (n : Nat) : ∀ u ∈ rowM 2 z n, u.oneCell' = true := by
  intro u hu
  unfold rowM at hu
  obtain ⟨x, _, rfl⟩ := List.mem_map.1 hu
  rfl
theorem rdI_news {w : World} {a : Addr} {zs : List Int} (h : RdI w .i64 (some a) zs) : ∀ j u, (zs.map (Value.int .i64))[j]? = some u → w.cell? (a.add j) = some u := by
  intro j u hu
  rw [List.getElem?_map] at hu
  have hj : j < zs.length := by
    rcases Nat.lt_or_ge j zs.length with h | h
    · exact h
    · rw [List.getElem?_eq_none h] at hu; cases hu
  obtain ⟨a', e, hlt, hc, _⟩ := h j hj
  cases e
  rw [hc]
  rw [List.getElem?_eq_getElem hj] at hu
  unfold zat
  rw [List.getD_eq_getElem?_getD, List.getElem?_eq_getElem hj]
  simpa using hu
theorem ints_cells1 (zs : List Int) : ∀ u ∈ zs.map (Value.int .i64), u.oneCell' = true := by
  intro u hu
  obtain ⟨x, _, rfl⟩ := List.mem_map.1 hu
  rfl
theorem spInfo : (Try.prog.info? 26).map (fun i => (i.zero, i.size, i.bytes)) = some (some (.agg #[.int .i64 0, .int .i64 0]), 2, 16) := by kernel_rfl
/-- append of a row of spans to a row that the call made -/
theorem append_spans {w : World} {ops : Array Oper} {rest : List Oper} {o : Oper} {a : Act} {Q : Exit → Act → World → Prop} (hgd : o.guard = none) (s x : Operand)
    (ho : o.op = .call { callee := .builtin .append, args := #[s, x], argTypes := #[22, 22] }) (base : Nat) (v : Value) (n : Nat) (xs : List Value) (hs : a.eval s = v) (hown : w.ownsRow base 26 2 v n xs)
    (A : Option Addr) (m c : Nat) (z : Nat → Nat → Int) (hx : a.eval x = .slice A m c) (hr : RdZ w 2 A m z) (hc : m ≤ c) (hn : A = none → c = 0) (hsm : n + m ≤ 100000) (hbase : base ≤ w.heap.size)
    (h : ∀ v' w', w'.ownsRow base 26 2 v' (n + m) (xs ++ rowM 2 z m) → Below base w w' → wpList Try.prog ops Q rest (a.put o.dst v') w') : wpList Try.prog ops Q (o :: rest) a w := by
  obtain ⟨i0, hi, hz0, hz1, hz2⟩ := info_parts spInfo
  cases A with
  | none =>
    obtain rfl : c = 0 := hn rfl
    obtain rfl : m = 0 := by omega
    refine wpList_append_own_none hgd s x _ ho base 26 i0 2 Try.underlying22 hi v n xs hs hown hx ?_
    exact h v w (by rw [rowM_zero, List.append_nil]; exact hown) (Below.refl _ _)
  | some ad =>
    refine wpList_append_own w hgd s x _ ho base 26 i0 (.agg #[.int .i64 0, .int .i64 0]) 2 16 Try.underlying22 hi hz0 hz1 hz2 rfl (by decide) v n xs hs hown ad m c (rowM 2 z m) hx (rowM_len ..) (rdZ_news hr) (rowM_cells1 z m) (by unfold maxLen; omega) (by omega) hbase ?_
    intro v' w' h1 h2 _
    exact h v' w' h1 ((Below.refl base w).grown h2 hbase (fun g hg => by first | exact ownR_ge hown hg | exact ownR_ge hown hg.symm))
theorem append_ints {w : World} {ops : Array Oper} {rest : List Oper} {o : Oper} {a : Act} {Q : Exit → Act → World → Prop} (hgd : o.guard = none) (s x : Operand)
    (ho : o.op = .call { callee := .builtin .append, args := #[s, x], argTypes := #[57, 57] }) (base : Nat) (v : Value) (n : Nat) (xs : List Value) (hs : a.eval s = v) (hown : w.ownsRow base 3 1 v n xs)
    (A : Option Addr) (m c : Nat) (zs : List Int) (hx : a.eval x = .slice A m c) (hm : zs.length = m) (hr : RdI w .i64 A zs) (hc : m ≤ c) (hn : A = none → c = 0) (hsm : n + m ≤ 100000) (hbase : base ≤ w.heap.size)
    (h : ∀ v' w', w'.ownsRow base 3 1 v' (n + m) (xs ++ zs.map (Value.int .i64)) → Below base w w' → wpList Try.prog ops Q rest (a.put o.dst v') w') : wpList Try.prog ops Q (o :: rest) a w := by
  obtain ⟨i0, hi, hz0, hz1, hz2⟩ := info_parts mkInfo
  cases A with
  | none =>
    obtain rfl : c = 0 := hn rfl
    obtain rfl : m = 0 := by omega
    obtain rfl : zs = [] := List.eq_nil_of_length_eq_zero hm
    refine wpList_append_own_none hgd s x _ ho base 3 i0 1 Try.underlying57 hi v n xs hs hown hx ?_
    exact h v w (by simpa using hown) (Below.refl _ _)
  | some ad =>
    refine wpList_append_own w hgd s x _ ho base 3 i0 (.int .i64 0) 1 8 Try.underlying57 hi hz0 hz1 hz2 rfl (by decide) v n xs hs hown ad m c (zs.map (Value.int .i64)) hx (by rw [List.length_map, hm, Nat.mul_one]) (rdI_news hr) (ints_cells1 zs) (by unfold maxLen; omega) (by omega) hbase ?_
    intro v' w' h1 h2 _
    exact h v' w' h1 ((Below.refl base w).grown h2 hbase (fun g hg => by first | exact ownR_ge hown hg | exact ownR_ge hown hg.symm))
/-- rows that the call made, as rows that are read -/
theorem own_isS {w : World} {base : Nat} {v : Value} {L : List (Int × Int)} (h : w.ownsRow base 26 2 v L.length (rowM 2 (zS L) L.length)) (hwf : ∀ p, p ∈ L → (-9223372036854775808 ≤ p.1 ∧ p.1 ≤ 9223372036854775807) ∧ (-9223372036854775808 ≤ p.2 ∧ p.2 ≤ 9223372036854775807)) : IsS w v L := by
  obtain ⟨A, c, h1, h2, h3, h4⟩ := ownM_rd h (fun i j hi hj => by
    have hm := hwf _ (getD_mem hi)
    rw [wf_i64_iff]
    unfold zS
    split
    · exact hm.1
    · exact hm.2)
  refine ⟨A, c, h1, h4, h2, h3, fun e => ?_⟩
  rcases h.2 with ⟨hv, hn⟩ | ⟨g, cap, cur, hv, _⟩
  · rw [h1] at hv; simp only [Value.slice.injEq] at hv; exact hv.2.2
  · rw [h1, e] at hv; simp only [Value.slice.injEq] at hv; cases hv.1
theorem own_isI {w : World} {base : Nat} {v : Value} {l : List Int} (h : w.ownsRow base 3 1 v l.length (l.map (Value.int .i64))) (hwf : ∀ x, x ∈ l → -9223372036854775808 ≤ x ∧ x ≤ 9223372036854775807) : IsI w v l := by
  obtain ⟨A, c, h1, h2⟩ := ownR_rd h (fun i hi => by
    rw [wf_i64_iff]
    exact hwf _ (at_mem hi))
  rcases h.2 with ⟨hv, hn⟩ | ⟨g, cap, cur, hv, hg, hh, hnc, hcm, _⟩
  · rw [h1] at hv; simp only [Value.slice.injEq] at hv
    exact ⟨A, c, h1, h2, by omega, by rw [hv.2.2]; simp [maxLen], fun _ => hv.2.2⟩
  · rw [h1] at hv
    simp only [Value.slice.injEq] at hv
    exact ⟨A, c, h1, h2, by omega, by omega, fun e => by rw [e] at hv; cases hv.1⟩
theorem has_yes {L : List (Int × Int)} {n : Int} {i : Nat} (hi : i < L.length) (h1 : zS L i 0 ≤ n) (h2 : n < zS L i 1) : hasL L n = true := (has_iff L n).2 ⟨_, getD_mem hi, h1, h2⟩
theorem has_not {L : List (Int × Int)} {n : Int} (h : ∀ i, i < L.length → ¬ (zS L i 0 ≤ n ∧ n < zS L i 1)) : hasL L n = false := by
  cases hh : hasL L n with
  | false => rfl
  | true =>
    obtain ⟨p, hp, h1, h2⟩ := (has_iff L n).1 hh
    obtain ⟨i, hi, e⟩ := List.getElem_of_mem hp
    have eg : L.getD i (0, 0) = p := by rw [List.getD_eq_getElem?_getD, List.getElem?_eq_getElem hi]; exact e
    exact absurd ⟨by unfold zS; rw [eg]; exact h1, by unfold zS; rw [eg]; exact h2⟩ (h i hi)
set_option maxRecDepth 100000 in
set_option maxHeartbeats 2000000 in
theorem dhas_any (v : Value) (L : List (Int × Int)) (x : Int) (w : World) (hv : IsS w v L) (hl : L.length ≤ 100000) :
    Calls Try.prog 12 #[v, .int .i64 x] w fun e w' => e = .returned (.bool (hasL L x)) ∧ w = w' := by
  obtain ⟨A, c, rfl, hr, hc1, hc2, hc3⟩ := hv
  obtain ⟨R, hR⟩ : ∃ R, hasL L x = R := ⟨_, rfl⟩
  have HR := Lib.hid hR
  rw [hR]
  have HD := Lib.hid hr
  obtain ⟨n, hn⟩ : ∃ n, L.length = n := ⟨_, rfl⟩
  have HN := Lib.hid hn
  rw [hn] at hl hc1 HD ⊢
  clear hr hR hn
  go_enter Try.func12, Try.ntmps12
  go_wp2_with fail
  go_loop [5] (fun i => ∃ k : Nat, k ≤ n ∧ i = .int .i64 k ∧ Hid (∀ j, j < k → ¬ (zS L j 0 ≤ x ∧ x < zS L j 1))) (fun i => n - (intOf i).toNat)
  case atStart => exact ⟨0, by omega, rfl, Lib.hid fun j hj => absurd hj (by omega)⟩
  case round =>
    obtain ⟨k, hk, rfl, HA⟩ := hrel
    by_cases h : k < n
    · skip
      obtain ⟨b, o, rfl, _, hcell⟩ := rdZ_row HD.out (by omega) (by omega)
      have c0 : w.cell? ⟨b, o + k * 2, none⟩ = _ := hcell k 0 h (by omega)
      have c1 := hcell k 1 h (by omega)
      obtain ⟨p, hp⟩ : ∃ p, zS L k 0 = p := ⟨_, rfl⟩
      obtain ⟨q, hq⟩ : ∃ q, zS L k 1 = q := ⟨_, rfl⟩
      have HP := Lib.hid hp; have HQ := Lib.hid hq
      rw [hp] at c0
      rw [hq] at c1
      clear hcell hp hq
      by_cases h1 : p ≤ x
      · by_cases h2 : x < q
        · obtain rfl : R = true := by rw [← HR.out]; exact has_yes (i := k) (by rw [HN.out]; exact h) (by rw [HP.out]; exact h1) (by rw [HQ.out]; exact h2)
          go_wp2_with fail
          go_ret
          exact ⟨rfl, rfl⟩
        · have HA2 : Hid (∀ j, j < k + 1 → ¬ (zS L j 0 ≤ x ∧ x < zS L j 1)) := Lib.hid fun j hj => by
            by_cases e : j < k
            · exact HA.out j e
            · obtain rfl : j = k := by omega
              rw [HP.out, HQ.out]; exact fun h => h2 h.2
          go_wp2_with fail
          go_round
          case rel => exact ⟨k + 1, by omega, by go_num, HA2⟩
          case measure => simp [intOf]; omega
      · have HA2 : Hid (∀ j, j < k + 1 → ¬ (zS L j 0 ≤ x ∧ x < zS L j 1)) := Lib.hid fun j hj => by
          by_cases e : j < k
          · exact HA.out j e
          · obtain rfl : j = k := by omega
            rw [HP.out, HQ.out]; exact fun h => h1 h.1
        go_wp2_with fail
        go_round
        case rel => exact ⟨k + 1, by omega, by go_num, HA2⟩
        case measure => simp [intOf]; omega
    · obtain rfl : R = false := by rw [← HR.out]; exact has_not (fun j hj => HA.out j (by rw [HN.out] at hj; omega))
      go_wp2_with fail
      go_ret
      exact ⟨rfl, rfl⟩
end Go.Proofs.Ytiinlidilkdfbaa
