/- HistSums: the law's way with k below 1. -/
import Derived.Test.YtnjdeikikdieoaaHistE
import Derived.Test.YtnjdeikikdieoaaSpanB
import Derived.Deep.LoopGhost
import Derived.Deep.RegionHeld3
import Derived.Deep.QuietTactic
import Derived.BigQuiet
import Derived.BigRegion
namespace Go.Proofs.Ytnjdeikikdieoaa
open Go.RowKit
set_option linter.unusedSimpArgs false
set_option linter.unusedVariables false
set_option maxRecDepth 100000 in
set_option maxHeartbeats 8000000 in
theorem walk_bad {A B : Option Addr} {ca cb : Nat} {a b : List Int} {kk : Int} {w : World} (h1 : a.length ≤ ca) (h2 : ca ≤ maxLen) (hra : RdI w .i64 A a ∧ (A = none → ca = 0)) (h3 : b.length ≤ cb) (h4 : cb ≤ maxLen) (hrb : RdI w .i64 B b ∧ (B = none → cb = 0)) (wk : (Lit.int .i64 kk).wf = true) (g1 : a.length ≤ 100) (g2 : b.length ≤ 100) (hkb : kk < 1) :
    Calls Try.prog 6 #[.slice A a.length ca, .slice B b.length cb, .int .i64 kk] w fun e w' => e = .returned (.bool true) ∧ Below w.heap.size w w' := by
  have HA : Hid (IsI w (.slice A a.length ca) a) := Lib.hid ⟨A, ca, rfl, hra.1, h1, h2, hra.2⟩
  have HBI : Hid (IsI w (.slice B b.length cb) b) := Lib.hid ⟨B, cb, rfl, hrb.1, h3, h4, hrb.2⟩
  have HRA := Lib.hid hra.1; have HRB := Lib.hid hrb.1
  have HIA := Lib.hid (isI_in HA.out); have HIB := Lib.hid (isI_in HBI.out)
  have HSI : Hid (∀ k, -9223372036854775808 ≤ sumF a b k ∧ sumF a b k ≤ 9223372036854775807) := Lib.hid fun k => wrap_i64_in _
  have HT0 : Hid (totL (a.take 0) = 0) := Lib.hid rfl
  have HTA : Hid (totL (a.take a.length) = totL a) := Lib.hid (by rw [List.take_length])
  have HSF : Hid (∀ (sv : Value) (W : World), W.ownsRow w.heap.size 3 1 sv (max a.length b.length) ((rowL (sumF a b) (max a.length b.length)).map (Value.int .i64)) → IsI W sv (sumL a b)) := Lib.hid fun sv W h => own_isI (base := w.heap.size) (by
    have e : (sumL a b).length = max a.length b.length := by unfold sumL; rw [rowL_len]
    rw [e]; exact h) sumL_in
  obtain ⟨la, hla⟩ : ∃ n, a.length = n := ⟨_, rfl⟩
  obtain ⟨lb, hlb⟩ : ∃ n, b.length = n := ⟨_, rfl⟩
  have HLA := Lib.hid hla; have HLB := Lib.hid hlb
  rw [hla] at h1 g1 HTA HSF ⊢
  rw [hlb] at h3 g2 HSF ⊢
  have wkb := bounds_i64 wk
  clear hra hrb hla hlb wk h1 h2 h3 h4
  obtain ⟨m, hm⟩ : ∃ m, max la lb = m := ⟨_, rfl⟩
  rw [hm] at HSF
  have hmI : max (la : Int) (lb : Int) = (m : Int) := by omega
  have hm1 : la ≤ m := by omega
  have hm2 : lb ≤ m := by omega
  have hm3 : m ≤ la ∨ m ≤ lb := by omega
  clear hm
  go_enter Try.func6, Try.ntmps6
  go_wp2_with fail
  go_loopw [7, 10] (fun s i wr => ∃ (k : Nat) (sv : Value), sv = s ∧ k ≤ m ∧ i = .int .i64 k ∧ Hid (wr.ownsRow w.heap.size 3 1 sv k ((rowL (sumF a b) k).map (Value.int .i64))) ∧ Hid (Below w.heap.size w wr)) (fun _ i _ => m - (intOf i).toNat)
  case atStart => exact ⟨0, _, rfl, by omega, rfl, Lib.hid (own0I _ _), Lib.hid (Below.refl _ _)⟩
  case round =>
    obtain ⟨k, sv, rfl, hk, rfl, HO, HB⟩ := hrel
    by_cases h : k < m
    · have hin := HSI.out k
      by_cases ha : k < la
      · obtain ⟨bb, oo, rfl, _, hca⟩ := rdI_row (RdI.kept HRA.out HB.out) (by have := HLA.out; omega)
        have ca := hca k (by have := HLA.out; omega)
        have hxa := HIA.out k
        by_cases hb : k < lb
        · obtain ⟨b2, o2, rfl, _, hcb⟩ := rdI_row (RdI.kept HRB.out HB.out) (by have := HLB.out; omega)
          have cb := hcb k (by have := HLB.out; omega)
          have hxb := HIB.out k
          have E : Hid (sumF a b k = IntKind.i64.wrap (zat a k + zat b k)) := Lib.hid rfl
          obtain ⟨x, hx⟩ : ∃ x, zat a k = x := ⟨_, rfl⟩
          obtain ⟨y, hy⟩ : ∃ y, zat b k = y := ⟨_, rfl⟩
          rw [hx] at ca hxa E
          rw [hy] at cb hxb E
          have hzin := wrap_i64_in (x + y)
          obtain ⟨z, hz⟩ : ∃ z, IntKind.i64.wrap (x + y) = z := ⟨_, rfl⟩
          rw [hz] at E hzin
          have E : Hid (z = sumF a b k) := Lib.hid E.out.symm
          clear hca hcb hx hy hin
          go_wp2_with (at_builtin; refine append_ints rfl _ _ rfl w.heap.size sv k _ rfl (HO.out.alloc _) (some ⟨_, 0, none⟩) 1 1 [z] rfl rfl (one_int z hzin) (by omega) (fun e => by cases e) (by omega) (by have := HB.out.size; simp; omega) ?_; intro n1 u1 p1 q1)
          have q2 : Below w.heap.size w u1 := (HB.out.alloc HB.out.size (.cells #[.int .i64 z] 3)).trans q1
          have p2 : u1.ownsRow w.heap.size 3 1 n1 (k + 1) ((rowL (sumF a b) (k + 1)).map (Value.int .i64)) := by
            rw [rowL_succ, List.map_append, ← E.out]; exact p1
          go_roundw
          case rel => exact ⟨k + 1, _, rfl, by omega, by go_num, Lib.hid p2, Lib.hid q2⟩
          case measure => simp [intOf]; omega
        · have E : Hid (sumF a b k = IntKind.i64.wrap (zat a k + zat b k)) := Lib.hid rfl
          have eb : zat b k = 0 := zat_out (by have := HLB.out; omega)
          rw [eb, Int.add_zero, wrap_i64_id hxa.1 hxa.2] at E
          obtain ⟨x, hx⟩ : ∃ x, zat a k = x := ⟨_, rfl⟩
          rw [hx] at ca hxa E
          have hzin := hxa
          have E : Hid (x = sumF a b k) := Lib.hid E.out.symm
          clear hca hx eb hin
          go_wp2_with (at_builtin; refine append_ints rfl _ _ rfl w.heap.size sv k _ rfl (HO.out.alloc _) (some ⟨_, 0, none⟩) 1 1 [x] rfl rfl (one_int x hzin) (by omega) (fun e => by cases e) (by omega) (by have := HB.out.size; simp; omega) ?_; intro n1 u1 p1 q1)
          have q2 : Below w.heap.size w u1 := (HB.out.alloc HB.out.size (.cells #[.int .i64 x] 3)).trans q1
          have p2 : u1.ownsRow w.heap.size 3 1 n1 (k + 1) ((rowL (sumF a b) (k + 1)).map (Value.int .i64)) := by
            rw [rowL_succ, List.map_append, ← E.out]; exact p1
          go_roundw
          case rel => exact ⟨k + 1, _, rfl, by omega, by go_num, Lib.hid p2, Lib.hid q2⟩
          case measure => simp [intOf]; omega
      · obtain ⟨b2, o2, rfl, _, hcb⟩ := rdI_row (RdI.kept HRB.out HB.out) (by have := HLB.out; omega)
        have cb := hcb k (by have := HLB.out; omega)
        have hb : k < lb := by omega
        have hxb := HIB.out k
        have E : Hid (sumF a b k = IntKind.i64.wrap (zat a k + zat b k)) := Lib.hid rfl
        have ea : zat a k = 0 := zat_out (by have := HLA.out; omega)
        rw [ea, Int.zero_add, wrap_i64_id hxb.1 hxb.2] at E
        obtain ⟨y, hy⟩ : ∃ y, zat b k = y := ⟨_, rfl⟩
        rw [hy] at cb hxb E
        have hzin := hxb
        have E : Hid (y = sumF a b k) := Lib.hid E.out.symm
        clear hcb hy ea hin
        go_wp2_with (at_builtin; refine append_ints rfl _ _ rfl w.heap.size sv k _ rfl (HO.out.alloc _) (some ⟨_, 0, none⟩) 1 1 [y] rfl rfl (one_int y hzin) (by omega) (fun e => by cases e) (by omega) (by have := HB.out.size; simp; omega) ?_; intro n1 u1 p1 q1)
        have q2 : Below w.heap.size w u1 := (HB.out.alloc HB.out.size (.cells #[.int .i64 y] 3)).trans q1
        have p2 : u1.ownsRow w.heap.size 3 1 n1 (k + 1) ((rowL (sumF a b) (k + 1)).map (Value.int .i64)) := by
          rw [rowL_succ, List.map_append, ← E.out]; exact p1
        go_roundw
        case rel => exact ⟨k + 1, _, rfl, by omega, by go_num, Lib.hid p2, Lib.hid q2⟩
        case measure => simp [intOf]; omega
    · obtain rfl : k = m := by omega
      obtain ⟨V, rfl⟩ : ∃ V, V = wr := ⟨_, rfl⟩
      have HS : Hid (IsI V sv (sumL a b)) := Lib.hid (HSF.out _ _ HO.out)
      clear h hk HO
      go_wp2_with fail
      go_loopw [8, 9, 12] (fun wv tv i W => ∃ j : Nat, j ≤ la ∧ i = .int .i64 j ∧ wv = .slice none 0 0 ∧ tv = .int .i64 (totL (a.take j)) ∧ Hid (Below V.heap.size V W)) (fun _ _ i _ => la - (intOf i).toNat)
      case atStart => exact ⟨0, by omega, rfl, rfl, by rw [HT0.out], Lib.hid (Below.refl _ _)⟩
      case round =>
        obtain ⟨j, hj, rfl, rfl, rfl, HW⟩ := hrel
        by_cases h : j < la
        · obtain ⟨bb, oo, rfl, _, hca⟩ := rdI_row (RdI.kept HRA.out (HB.out.trans (HW.out.mono HB.out.size))) (by have := HLA.out; omega)
          have ca := hca j (by have := HLA.out; omega)
          have E := Lib.hid (totL_take (zs := a) (k := j) (by have := HLA.out; omega))
          obtain ⟨x, hx⟩ : ∃ x, zat a j = x := ⟨_, rfl⟩
          obtain ⟨t, ht⟩ : ∃ t, totL (a.take j) = t := ⟨_, rfl⟩
          rw [hx] at ca E
          rw [ht] at E ⊢
          obtain ⟨u, hu⟩ : ∃ u, IntKind.i64.wrap (t + x) = u := ⟨_, rfl⟩
          rw [hu] at E
          clear hca hx ht
          go_wp2_with fail
          go_roundw
          case rel => exact ⟨j + 1, by omega, by go_num, rfl, by rw [E.out], HW⟩
          case measure => simp [intOf]; omega
        · obtain rfl : la = j := by omega
          rw [HTA.out]
          clear h hj
          obtain ⟨t, ht⟩ : ∃ t, totL a = t := ⟨_, rfl⟩
          have HT := Lib.hid ht
          rw [ht]
          clear ht
          have HWW := Lib.hid (HB.out.trans (HW.out.mono HB.out.size))
          have HAW := Lib.hid (IsI.kept HA.out HWW.out); have HBW := Lib.hid (IsI.kept HBI.out HWW.out)
          have HSW := Lib.hid (IsI.kept HS.out HW.out)
          rw [HLA.out] at HAW; rw [HLB.out] at HBW
          have K0 := Lib.hid (wider_bad A la ca kk wr hkb)
          clear HSI HT0 HTA HSF hm1 hm2 hm3 HIA HIB HRA HRB
          go_wp2_with fail
          refine K0.out.mono ?_
          rintro e W1 ⟨rfl, b1⟩
          have H1 := Lib.hid b1
          clear b1 K0
          go_wp2_with fail
          refine (hadd_any _ _ a b W1 (IsI.kept HAW.out H1.out) (IsI.kept HBW.out H1.out) (by have := HLA.out; omega) (by have := HLB.out; omega)).mono ?_
          rintro e W2 ⟨v2, rfl, hv2, b2⟩
          have HV2 := Lib.hid hv2
          have H2 := Lib.hid (H1.out.trans (b2.mono H1.out.size))
          clear hv2 b2 H1
          have hl2 : (sumL a b).length ≤ 1000 := by unfold sumL; rw [rowL_len]; have := HLA.out; have := HLB.out; omega
          go_wp2_with fail
          refine (ints_same v2 sv _ W2 HV2.out (IsI.kept HSW.out H2.out) hl2).mono ?_
          rintro e W3 ⟨rfl, b3⟩
          have H3 := Lib.hid (H2.out.trans (b3.mono H2.out.size))
          clear b3 H2
          go_wp2_with fail
          refine (htot_b _ a W3 (IsI.kept HAW.out H3.out) (by have := HLA.out; omega)).mono ?_
          rintro e W4 ⟨rfl, b4⟩
          have H4 := Lib.hid (H3.out.trans (b4.mono H3.out.size))
          rw [HT.out]
          have htt : (t == t) = true := by simp
          clear b4 H3
          go_wp2_with fail
          refine (hialive W4).mono ?_
          rintro e W5 ⟨rfl, b5⟩
          have H5 := Lib.hid (HWW.out.trans ((H4.out.trans (b5.mono H4.out.size)).mono HWW.out.size))
          clear b5
          go_wp2_with fail
          go_ret
          exact ⟨rfl, H5.out⟩
end Go.Proofs.Ytnjdeikikdieoaa
