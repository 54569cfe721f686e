/- HistSums: the law's way with k from 1 on. -/
import Derived.Test.YtnjdeikikdieoaaHistE
import Derived.Test.YtnjdeikikdieoaaSpanB
import Derived.Deep.LoopGhost
import Derived.Deep.RegionHeld3
import Derived.Deep.QuietTactic
import Derived.BigQuiet
import Derived.BigRegion
namespace Go.Proofs.Ytnjdeikikdieoaa
open Go.RowKit
set_option linter.unusedSimpArgs false
set_option linter.unusedVariables false
set_option maxRecDepth 100000 in
set_option maxHeartbeats 8000000 in
theorem walk_ok {A B : Option Addr} {ca cb : Nat} {a b : List Int} {kk : Int} {w : World} (h1 : a.length ≤ ca) (h2 : ca ≤ maxLen) (hra : RdI w .i64 A a ∧ (A = none → ca = 0)) (h3 : b.length ≤ cb) (h4 : cb ≤ maxLen) (hrb : RdI w .i64 B b ∧ (B = none → cb = 0)) (wk : (Lit.int .i64 kk).wf = true) (g1 : a.length ≤ 100) (g2 : b.length ≤ 100) (hkb : 1 ≤ kk) :
    Calls Try.prog 6 #[.slice A a.length ca, .slice B b.length cb, .int .i64 kk] w fun e w' => e = .returned (.bool true) ∧ Below w.heap.size w w' := by
  have HA : Hid (IsI w (.slice A a.length ca) a) := Lib.hid ⟨A, ca, rfl, hra.1, h1, h2, hra.2⟩
  have HBI : Hid (IsI w (.slice B b.length cb) b) := Lib.hid ⟨B, cb, rfl, hrb.1, h3, h4, hrb.2⟩
  have HRA := Lib.hid hra.1; have HRB := Lib.hid hrb.1
  have HIA := Lib.hid (isI_in HA.out); have HIB := Lib.hid (isI_in HBI.out)
  have HSI : Hid (∀ k, -9223372036854775808 ≤ sumF a b k ∧ sumF a b k ≤ 9223372036854775807) := Lib.hid fun k => wrap_i64_in _
  have HT0 : Hid (totL (a.take 0) = 0) := Lib.hid rfl
  have HTA : Hid (totL (a.take a.length) = totL a) := Lib.hid (by rw [List.take_length])
  have HSF : Hid (∀ (sv : Value) (W : World), W.ownsRow w.heap.size 3 1 sv (max a.length b.length) ((rowL (sumF a b) (max a.length b.length)).map (Value.int .i64)) → IsI W sv (sumL a b)) := Lib.hid fun sv W h => own_isI (base := w.heap.size) (by
    have e : (sumL a b).length = max a.length b.length := by unfold sumL; rw [rowL_len]
    rw [e]; exact h) sumL_in
  obtain ⟨la, hla⟩ : ∃ n, a.length = n := ⟨_, rfl⟩
  obtain ⟨lb, hlb⟩ : ∃ n, b.length = n := ⟨_, rfl⟩
  have HLA := Lib.hid hla; have HLB := Lib.hid hlb
  rw [hla] at h1 g1 HTA HSF ⊢
  rw [hlb] at h3 g2 HSF ⊢
  have wkb := bounds_i64 wk
  obtain ⟨K, rfl⟩ : ∃ K : Nat, kk = (K : Int) := ⟨kk.toNat, by omega⟩
  have hK1 : 1 ≤ K := by omega
  have HWF : Hid (∀ (base : Nat) (wv : Value) (W : World), W.ownsRow base 3 1 wv (nc K a.length) ((rowL (prt a K a.length) (nc K a.length)).map (Value.int .i64)) → IsI W wv ((chF K 101 a).map totL)) := Lib.hid fun base wv W h => by
    rw [wide_row hK1 (by omega)]
    exact own_isI (base := base) (by rw [rowL_len]; exact h) (fun x hx => prt_in a K _ x _ hx)
  have HTO : Hid (totL ((chF K 101 a).map totL) = totL a) := Lib.hid (tot_wide hK1 (by omega))
  have HLW : Hid (((chF K 101 a).map totL).length ≤ 1000) := Lib.hid (by rw [wide_row hK1 (by omega), rowL_len]; exact nc_le hK1 (by omega))
  rw [hla] at HWF
  clear hra hrb hla hlb wk h1 h2 h3 h4
  obtain ⟨m, hm⟩ : ∃ m, max la lb = m := ⟨_, rfl⟩
  rw [hm] at HSF
  have hmI : max (la : Int) (lb : Int) = (m : Int) := by omega
  have hm1 : la ≤ m := by omega
  have hm2 : lb ≤ m := by omega
  have hm3 : m ≤ la ∨ m ≤ lb := by omega
  clear hm
  go_enter Try.func6, Try.ntmps6
  go_wp2_with fail
  go_loopw [7, 10] (fun s i wr => ∃ (k : Nat) (sv : Value), sv = s ∧ k ≤ m ∧ i = .int .i64 k ∧ Hid (wr.ownsRow w.heap.size 3 1 sv k ((rowL (sumF a b) k).map (Value.int .i64))) ∧ Hid (Below w.heap.size w wr)) (fun _ i _ => m - (intOf i).toNat)
  case atStart => exact ⟨0, _, rfl, by omega, rfl, Lib.hid (own0I _ _), Lib.hid (Below.refl _ _)⟩
  case round =>
    obtain ⟨k, sv, rfl, hk, rfl, HO, HB⟩ := hrel
    by_cases h : k < m
    · have hin := HSI.out k
      by_cases ha : k < la
      · obtain ⟨bb, oo, rfl, _, hca⟩ := rdI_row (RdI.kept HRA.out HB.out) (by have := HLA.out; omega)
        have ca := hca k (by have := HLA.out; omega)
        have hxa := HIA.out k
        by_cases hb : k < lb
        · obtain ⟨b2, o2, rfl, _, hcb⟩ := rdI_row (RdI.kept HRB.out HB.out) (by have := HLB.out; omega)
          have cb := hcb k (by have := HLB.out; omega)
          have hxb := HIB.out k
          have E : Hid (sumF a b k = IntKind.i64.wrap (zat a k + zat b k)) := Lib.hid rfl
          obtain ⟨x, hx⟩ : ∃ x, zat a k = x := ⟨_, rfl⟩
          obtain ⟨y, hy⟩ : ∃ y, zat b k = y := ⟨_, rfl⟩
          rw [hx] at ca hxa E
          rw [hy] at cb hxb E
          have hzin := wrap_i64_in (x + y)
          obtain ⟨z, hz⟩ : ∃ z, IntKind.i64.wrap (x + y) = z := ⟨_, rfl⟩
          rw [hz] at E hzin
          have E : Hid (z = sumF a b k) := Lib.hid E.out.symm
          clear hca hcb hx hy hin
          go_wp2_with (at_builtin; refine append_ints rfl _ _ rfl w.heap.size sv k _ rfl (HO.out.alloc _) (some ⟨_, 0, none⟩) 1 1 [z] rfl rfl (one_int z hzin) (by omega) (fun e => by cases e) (by omega) (by have := HB.out.size; simp; omega) ?_; intro n1 u1 p1 q1)
          have q2 : Below w.heap.size w u1 := (HB.out.alloc HB.out.size (.cells #[.int .i64 z] 3)).trans q1
          have p2 : u1.ownsRow w.heap.size 3 1 n1 (k + 1) ((rowL (sumF a b) (k + 1)).map (Value.int .i64)) := by
            rw [rowL_succ, List.map_append, ← E.out]; exact p1
          go_roundw
          case rel => exact ⟨k + 1, _, rfl, by omega, by go_num, Lib.hid p2, Lib.hid q2⟩
          case measure => simp [intOf]; omega
        · have E : Hid (sumF a b k = IntKind.i64.wrap (zat a k + zat b k)) := Lib.hid rfl
          have eb : zat b k = 0 := zat_out (by have := HLB.out; omega)
          rw [eb, Int.add_zero, wrap_i64_id hxa.1 hxa.2] at E
          obtain ⟨x, hx⟩ : ∃ x, zat a k = x := ⟨_, rfl⟩
          rw [hx] at ca hxa E
          have hzin := hxa
          have E : Hid (x = sumF a b k) := Lib.hid E.out.symm
          clear hca hx eb hin
          go_wp2_with (at_builtin; refine append_ints rfl _ _ rfl w.heap.size sv k _ rfl (HO.out.alloc _) (some ⟨_, 0, none⟩) 1 1 [x] rfl rfl (one_int x hzin) (by omega) (fun e => by cases e) (by omega) (by have := HB.out.size; simp; omega) ?_; intro n1 u1 p1 q1)
          have q2 : Below w.heap.size w u1 := (HB.out.alloc HB.out.size (.cells #[.int .i64 x] 3)).trans q1
          have p2 : u1.ownsRow w.heap.size 3 1 n1 (k + 1) ((rowL (sumF a b) (k + 1)).map (Value.int .i64)) := by
            rw [rowL_succ, List.map_append, ← E.out]; exact p1
          go_roundw
          case rel => exact ⟨k + 1, _, rfl, by omega, by go_num, Lib.hid p2, Lib.hid q2⟩
          case measure => simp [intOf]; omega
      · obtain ⟨b2, o2, rfl, _, hcb⟩ := rdI_row (RdI.kept HRB.out HB.out) (by have := HLB.out; omega)
        have cb := hcb k (by have := HLB.out; omega)
        have hb : k < lb := by omega
        have hxb := HIB.out k
        have E : Hid (sumF a b k = IntKind.i64.wrap (zat a k + zat b k)) := Lib.hid rfl
        have ea : zat a k = 0 := zat_out (by have := HLA.out; omega)
        rw [ea, Int.zero_add, wrap_i64_id hxb.1 hxb.2] at E
        obtain ⟨y, hy⟩ : ∃ y, zat b k = y := ⟨_, rfl⟩
        rw [hy] at cb hxb E
        have hzin := hxb
        have E : Hid (y = sumF a b k) := Lib.hid E.out.symm
        clear hcb hy ea hin
        go_wp2_with (at_builtin; refine append_ints rfl _ _ rfl w.heap.size sv k _ rfl (HO.out.alloc _) (some ⟨_, 0, none⟩) 1 1 [y] rfl rfl (one_int y hzin) (by omega) (fun e => by cases e) (by omega) (by have := HB.out.size; simp; omega) ?_; intro n1 u1 p1 q1)
        have q2 : Below w.heap.size w u1 := (HB.out.alloc HB.out.size (.cells #[.int .i64 y] 3)).trans q1
        have p2 : u1.ownsRow w.heap.size 3 1 n1 (k + 1) ((rowL (sumF a b) (k + 1)).map (Value.int .i64)) := by
          rw [rowL_succ, List.map_append, ← E.out]; exact p1
        go_roundw
        case rel => exact ⟨k + 1, _, rfl, by omega, by go_num, Lib.hid p2, Lib.hid q2⟩
        case measure => simp [intOf]; omega
    · obtain rfl : k = m := by omega
      obtain ⟨V, rfl⟩ : ∃ V, V = wr := ⟨_, rfl⟩
      have HS : Hid (IsI V sv (sumL a b)) := Lib.hid (HSF.out _ _ HO.out)
      clear h hk HO
      go_wp2_with fail
      go_loopw [8, 9, 12] (fun s tv i wr => ∃ (j : Nat) (wv : Value), wv = s ∧ j ≤ la ∧ i = .int .i64 j ∧ tv = .int .i64 (totL (a.take j)) ∧ Hid (wr.ownsRow V.heap.size 3 1 wv (nc K j) ((rowL (prt a K j) (nc K j)).map (Value.int .i64))) ∧ Hid (Below V.heap.size V wr)) (fun _ _ i _ => la - (intOf i).toNat)
      case atStart => exact ⟨0, _, rfl, by omega, rfl, by rw [HT0.out], Lib.hid (own0I _ _), Lib.hid (Below.refl _ _)⟩
      case round =>
        obtain ⟨j, wv, rfl, hj, rfl, rfl, HO, HW⟩ := hrel
        by_cases h : j < la
        · obtain ⟨bb, oo, rfl, hlt, hca⟩ := rdI_row (RdI.kept HRA.out HB.out) (by have := HLA.out; omega)
          have cv := hca j (by have := HLA.out; omega)
          have ca := (HW.out.cell (p := ⟨bb, oo + j, none⟩) hlt).trans cv
          have E := Lib.hid (totL_take (zs := a) (k := j) (by have := HLA.out; omega))
          have hxa := HIA.out j
          have SET := Lib.hid (fun u hu => prt_set (l := a) (K := K) (i := j) hK1 (by have := HLA.out; omega) u hu)
          have NW := Lib.hid (prt_new (l := a) (K := K) (i := j) hK1 (by have := HLA.out; omega))
          have N0 := Lib.hid (nc_zero (K := K) (i := j) hK1)
          have N1 := Lib.hid (nc_other (K := K) (i := j) hK1)
          have NS : Hid (nc K (j + 1) = j / K + 1) := Lib.hid rfl
          have hqj : j / K ≤ j := Nat.div_le_self _ _
          have hdv : (j : Int) / (K : Int) = ((j / K : Nat) : Int) := (Int.natCast_ediv j K).symm
          have hmd : (j : Int) % (K : Int) = ((j % K : Nat) : Int) := (Int.natCast_emod j K).symm
          have hdt : (j : Int).tdiv (K : Int) = ((j / K : Nat) : Int) := by rw [Int.tdiv_eq_ediv_of_nonneg (by omega)]; exact hdv
          have hmt : (j : Int).tmod (K : Int) = ((j % K : Nat) : Int) := by rw [Int.tmod_eq_emod_of_nonneg (by omega)]; exact hmd
          have hjl : (j : Int) < (la : Int) := by omega
          have hKn : ¬ K = 0 := by omega
          have hKz : ((K : Int) == 0) = false := by rw [beq_eq_false_iff_ne]; omega
          obtain ⟨q, hq⟩ : ∃ q, j / K = q := ⟨_, rfl⟩
          obtain ⟨r, hr⟩ : ∃ r, j % K = r := ⟨_, rfl⟩
          obtain ⟨x, hx⟩ : ∃ x, zat a j = x := ⟨_, rfl⟩
          obtain ⟨t, ht⟩ : ∃ t, totL (a.take j) = t := ⟨_, rfl⟩
          rw [hx] at cv ca E hxa SET
          rw [ht] at E ⊢
          rw [hq] at SET NW N0 N1 NS hqj hdv hdt
          rw [hr] at NW N0 N1 hmd hmt
          obtain ⟨u, hu⟩ : ∃ u, IntKind.i64.wrap (t + x) = u := ⟨_, rfl⟩
          rw [hu] at E
          have hqq : (q : Int) < (q : Int) + 1 := by omega
          have hwq : IntKind.i64.wrap (q : Int) = (q : Int) := wrap_i64_id (by omega) (by omega)
          have HLT := Lib.hid hlt
          have HCV := Lib.hid cv
          have HPV : Hid (prt a K j q = prt a K j q) := Lib.hid rfl
          obtain ⟨pv, hpv⟩ : ∃ pv, prt a K j q = pv := ⟨_, rfl⟩
          have HPE := Lib.hid hpv
          rw [hpv] at SET NW
          obtain ⟨z, hz⟩ : ∃ z, IntKind.i64.wrap (pv + x) = z := ⟨_, rfl⟩
          rw [hz] at SET
          have S2 := Lib.hid (SET.out z rfl)
          clear hca hx ht hpv hq SET cv hlt
          by_cases h0 : r = 0
          · subst h0
            have n0 := N0.out rfl
            have PZ := Lib.hid (NW.out rfl)
            rw [n0] at HO
            have hzin : -9223372036854775808 ≤ (0 : Int) ∧ (0 : Int) ≤ 9223372036854775807 := by omega
            clear N0 N1 NW
            go_wp2_with (at_builtin; refine append_ints rfl _ _ rfl V.heap.size wv q _ rfl (HO.out.alloc _) (some ⟨_, 0, none⟩) 1 1 [0] rfl rfl (one_int 0 hzin) (by omega) (fun e => by cases e) (by omega) (by have := HW.out.size; simp; omega) ?_; intro n1 u1 p1 q1; have q2 : Below V.heap.size V u1 := (HW.out.alloc HW.out.size (.cells #[.int .i64 0] 3)).trans q1; have p2 : u1.ownsRow V.heap.size 3 1 n1 (q + 1) ((rowL (prt a K j) (q + 1)).map (Value.int .i64)) := (by rw [rowL_succ, List.map_append, HPE.out, PZ.out]; exact p1); obtain ⟨g, cap, rfl⟩ := ownsRow_succ p2; have hge := ownR_ge p2 rfl; have cw : u1.cell? ⟨g, q, none⟩ = some (.int .i64 pv) := (by rw [← HPE.out]; exact ownR_cell p2 (by omega)); have fw := p2.frozenAt q; have ca1 : u1.cell? ⟨bb, oo + j, none⟩ = some (.int .i64 x) := (q2.cell (p := ⟨bb, oo + j, none⟩) HLT.out).trans HCV.out)
            have hnx : (u1.setCell ⟨g, q, none⟩ (.int .i64 z)).ownsRow V.heap.size 3 1 (.slice (some ⟨g, 0, none⟩) (q + 1) cap) (nc K (j + 1)) ((rowL (prt a K (j + 1)) (nc K (j + 1))).map (Value.int .i64)) := by
              rw [NS.out]
              have e2 := S2.out
              rw [NS.out] at e2
              exact mkRow_put (u := z) p2 e2
            have HNX : Hid ((u1.setCell ⟨g, q, none⟩ (.int .i64 z)).drew.ownsRow V.heap.size 3 1 (.slice (some ⟨g, 0, none⟩) (q + 1) cap) (nc K (j + 1)) ((rowL (prt a K (j + 1)) (nc K (j + 1))).map (Value.int .i64))) := Lib.hid hnx
            have HBX : Hid (Below V.heap.size V (u1.setCell ⟨g, q, none⟩ (.int .i64 z)).drew) := Lib.hid ((q2.setCell (p := ⟨g, q, none⟩) hge _).drew)
            clear hnx
            clear p2 q2 hge
            refine wp_region_held_drew (S := (fun _ : World => True)) (by kernel_rfl) trivial (fun hHeld => ?_)
            clear hHeld
            refine wpAnyH_take (i := 0) (v := ?_) rfl (by kernel_rfl) (by kernel_rfl) (by kernel_rfl) (fun _ _ _ h => h) (Or.inl ⟨by rfl, ?_⟩) trivial ?_
            rotate_left
            · (intro wS hSw; (try dsimp only at hSw); go_simp; try with_reducible rfl)
            simp only [Act.put, List.getElem_toArray, List.getElem_cons_zero, List.getElem_cons_succ, List.setIfInBounds_toArray, List.set_cons_zero, List.set_cons_succ]
            refine wpAnyH_take (i := 1) (v := ?_) rfl (by kernel_rfl) (by kernel_rfl) (by kernel_rfl) (fun _ _ _ h => h) (Or.inl ⟨by rfl, ?_⟩) trivial ?_
            rotate_left
            · (intro wS hSw; (try dsimp only at hSw); go_simp; try with_reducible rfl)
            simp only [Act.put, List.getElem_toArray, List.getElem_cons_zero, List.getElem_cons_succ, List.setIfInBounds_toArray, List.set_cons_zero, List.set_cons_succ]
            refine wpAnyH_take (i := 2) (v := ?_) rfl (by kernel_rfl) (by kernel_rfl) (by kernel_rfl) (fun _ _ _ h => h) (Or.inl ⟨by rfl, ?_⟩) trivial ?_
            rotate_left
            · (intro wS hSw; (try dsimp only at hSw); go_simp; try with_reducible rfl)
            simp only [Act.put, List.getElem_toArray, List.getElem_cons_zero, List.getElem_cons_succ, List.setIfInBounds_toArray, List.set_cons_zero, List.set_cons_succ]
            refine wpAnyH_take (i := 3) (v := ?_) rfl (by kernel_rfl) (by kernel_rfl) (by kernel_rfl) (fun _ _ _ h => h) (Or.inl ⟨by rfl, ?_⟩) trivial ?_
            rotate_left
            · (intro wS hSw; (try dsimp only at hSw); go_simp; try with_reducible rfl)
            simp only [Act.put, List.getElem_toArray, List.getElem_cons_zero, List.getElem_cons_succ, List.setIfInBounds_toArray, List.set_cons_zero, List.set_cons_succ]
            refine wpAnyH_take (i := 4) (v := ?_) rfl (by kernel_rfl) (by kernel_rfl) (by kernel_rfl) (fun _ _ _ h => h) (Or.inl ⟨by rfl, ?_⟩) trivial ?_
            rotate_left
            · (intro wS hSw; (try dsimp only at hSw); go_simp; try with_reducible rfl)
            simp only [Act.put, List.getElem_toArray, List.getElem_cons_zero, List.getElem_cons_succ, List.setIfInBounds_toArray, List.set_cons_zero, List.set_cons_succ]
            refine wpAnyH_take (i := 6) (v := ?_) rfl (by kernel_rfl) (by kernel_rfl) (by kernel_rfl) (fun _ _ _ h => h) (Or.inl ⟨by rfl, ?_⟩) trivial ?_
            rotate_left
            · (intro wS hSw; (try dsimp only at hSw); go_simp; try with_reducible rfl)
            simp only [Act.put, List.getElem_toArray, List.getElem_cons_zero, List.getElem_cons_succ, List.setIfInBounds_toArray, List.set_cons_zero, List.set_cons_succ]
            refine wpAnyH_take (i := 7) (v := ?_) rfl (by kernel_rfl) (by kernel_rfl) (by kernel_rfl) (fun _ _ _ h => h) (Or.inl ⟨by rfl, ?_⟩) trivial ?_
            rotate_left
            · (intro wS hSw; (try dsimp only at hSw); go_simp; try with_reducible rfl)
            simp only [Act.put, List.getElem_toArray, List.getElem_cons_zero, List.getElem_cons_succ, List.setIfInBounds_toArray, List.set_cons_zero, List.set_cons_succ]
            refine wpAnyH_take (i := 8) (v := ?_) rfl (by kernel_rfl) (by kernel_rfl) (by kernel_rfl) (fun _ _ _ h => h) (Or.inl ⟨by rfl, ?_⟩) trivial ?_
            rotate_left
            · (intro wS hSw; (try dsimp only at hSw); go_simp; try with_reducible rfl)
            simp only [Act.put, List.getElem_toArray, List.getElem_cons_zero, List.getElem_cons_succ, List.setIfInBounds_toArray, List.set_cons_zero, List.set_cons_succ]
            refine wpAnyH_ready (rs := [5, 9]) (by kernel_rfl) (by simp) ?_
            refine AllReadyH.cons rfl (fun K hK => ?_) (AllReadyH.cons rfl (fun K hK => ?_) AllReadyH.nil)
            · go_simp
              refine hK.out _ _ trivial (fun hHeld => ?_)
              clear hK K hHeld
              try simp only [Act.put, List.getElem_toArray, List.getElem_cons_zero, List.getElem_cons_succ, List.setIfInBounds_toArray, List.set_cons_zero, List.set_cons_succ]
              refine wpAnyH_ready (rs := [9]) (by kernel_rfl) (by simp) ?_
              refine AllReadyH.cons rfl (fun K hK => ?_) AllReadyH.nil
              go_simp
              refine hK.out _ _ trivial (fun hHeld => ?_)
              clear hK K hHeld
              try simp only [Act.put, List.getElem_toArray, List.getElem_cons_zero, List.getElem_cons_succ, List.setIfInBounds_toArray, List.set_cons_zero, List.set_cons_succ]
              refine wpAnyH_take (i := 10) (v := ?_) rfl (by kernel_rfl) (by kernel_rfl) (by kernel_rfl) (fun _ _ _ h => h) (Or.inl ⟨by rfl, ?_⟩) trivial ?_
              rotate_left
              · (intro wS hSw; (try dsimp only at hSw); go_simp; try with_reducible rfl)
              simp only [Act.put, List.getElem_toArray, List.getElem_cons_zero, List.getElem_cons_succ, List.setIfInBounds_toArray, List.set_cons_zero, List.set_cons_succ]
              refine wpAnyH_take (i := 11) (v := ?_) rfl (by kernel_rfl) (by kernel_rfl) (by kernel_rfl) (fun _ _ _ h => h) (Or.inl ⟨by rfl, ?_⟩) trivial ?_
              rotate_left
              · (intro wS hSw; (try dsimp only at hSw); go_simp; try with_reducible rfl)
              simp only [Act.put, List.getElem_toArray, List.getElem_cons_zero, List.getElem_cons_succ, List.setIfInBounds_toArray, List.set_cons_zero, List.set_cons_succ]
              refine wpAnyH_ready (rs := [12]) (by kernel_rfl) (by simp) ?_
              refine AllReadyH.cons rfl (fun K hK => ?_) AllReadyH.nil
              go_simp
              refine hK.out _ _ trivial (fun hHeld => ?_)
              clear hK K hHeld
              try simp only [Act.put, List.getElem_toArray, List.getElem_cons_zero, List.getElem_cons_succ, List.setIfInBounds_toArray, List.set_cons_zero, List.set_cons_succ]
              refine wpAnyH_done (by kernel_rfl) ?_ _
              go_wp2_with fail
              go_roundw
              case rel => exact ⟨j + 1, _, rfl, by omega, by go_num, by rw [E.out], Lib.hid (HNX.out), Lib.hid HBX.out⟩
              case measure => simp [intOf]; omega
            · go_simp
              refine hK.out _ _ trivial (fun hHeld => ?_)
              clear hK K hHeld
              try simp only [Act.put, List.getElem_toArray, List.getElem_cons_zero, List.getElem_cons_succ, List.setIfInBounds_toArray, List.set_cons_zero, List.set_cons_succ]
              refine wpAnyH_ready (rs := [5]) (by kernel_rfl) (by simp) ?_
              refine AllReadyH.cons rfl (fun K hK => ?_) AllReadyH.nil
              go_simp
              refine hK.out _ _ trivial (fun hHeld => ?_)
              clear hK K hHeld
              try simp only [Act.put, List.getElem_toArray, List.getElem_cons_zero, List.getElem_cons_succ, List.setIfInBounds_toArray, List.set_cons_zero, List.set_cons_succ]
              refine wpAnyH_take (i := 10) (v := ?_) rfl (by kernel_rfl) (by kernel_rfl) (by kernel_rfl) (fun _ _ _ h => h) (Or.inl ⟨by rfl, ?_⟩) trivial ?_
              rotate_left
              · (intro wS hSw; (try dsimp only at hSw); go_simp; try with_reducible rfl)
              simp only [Act.put, List.getElem_toArray, List.getElem_cons_zero, List.getElem_cons_succ, List.setIfInBounds_toArray, List.set_cons_zero, List.set_cons_succ]
              refine wpAnyH_take (i := 11) (v := ?_) rfl (by kernel_rfl) (by kernel_rfl) (by kernel_rfl) (fun _ _ _ h => h) (Or.inl ⟨by rfl, ?_⟩) trivial ?_
              rotate_left
              · (intro wS hSw; (try dsimp only at hSw); go_simp; try with_reducible rfl)
              simp only [Act.put, List.getElem_toArray, List.getElem_cons_zero, List.getElem_cons_succ, List.setIfInBounds_toArray, List.set_cons_zero, List.set_cons_succ]
              refine wpAnyH_ready (rs := [12]) (by kernel_rfl) (by simp) ?_
              refine AllReadyH.cons rfl (fun K hK => ?_) AllReadyH.nil
              go_simp
              refine hK.out _ _ trivial (fun hHeld => ?_)
              clear hK K hHeld
              try simp only [Act.put, List.getElem_toArray, List.getElem_cons_zero, List.getElem_cons_succ, List.setIfInBounds_toArray, List.set_cons_zero, List.set_cons_succ]
              refine wpAnyH_done (by kernel_rfl) ?_ _
              go_wp2_with fail
              go_roundw
              case rel => exact ⟨j + 1, _, rfl, by omega, by go_num, by rw [E.out], Lib.hid (HNX.out), Lib.hid HBX.out⟩
              case measure => simp [intOf]; omega

          · have n1 := N1.out h0
            rw [n1] at HO
            have p2 := HO.out
            obtain ⟨g, cap, rfl⟩ := ownsRow_succ p2
            have hge := ownR_ge p2 rfl
            have cw : wr.cell? ⟨g, q, none⟩ = some (.int .i64 pv) := (by rw [← HPE.out]; exact ownR_cell p2 (by omega))
            have fw := p2.frozenAt q
            have P2 := Lib.hid p2
            clear p2 n1 N0 N1 NW
            have p2 := P2.out
            have q2 := HW.out
            have hnx : (wr.setCell ⟨g, q, none⟩ (.int .i64 z)).ownsRow V.heap.size 3 1 (.slice (some ⟨g, 0, none⟩) (q + 1) cap) (nc K (j + 1)) ((rowL (prt a K (j + 1)) (nc K (j + 1))).map (Value.int .i64)) := by
              rw [NS.out]
              have e2 := S2.out
              rw [NS.out] at e2
              exact mkRow_put (u := z) p2 e2
            have HNX : Hid ((wr.setCell ⟨g, q, none⟩ (.int .i64 z)).drew.ownsRow V.heap.size 3 1 (.slice (some ⟨g, 0, none⟩) (q + 1) cap) (nc K (j + 1)) ((rowL (prt a K (j + 1)) (nc K (j + 1))).map (Value.int .i64))) := Lib.hid hnx
            have HBX : Hid (Below V.heap.size V (wr.setCell ⟨g, q, none⟩ (.int .i64 z)).drew) := Lib.hid ((q2.setCell (p := ⟨g, q, none⟩) hge _).drew)
            clear hnx
            clear p2 q2 hge
            go_wp2_with fail
            refine wp_region_held_drew (S := (fun _ : World => True)) (by kernel_rfl) trivial (fun hHeld => ?_)
            clear hHeld
            refine wpAnyH_take (i := 0) (v := ?_) rfl (by kernel_rfl) (by kernel_rfl) (by kernel_rfl) (fun _ _ _ h => h) (Or.inl ⟨by rfl, ?_⟩) trivial ?_
            rotate_left
            · (intro wS hSw; (try dsimp only at hSw); go_simp; try with_reducible rfl)
            simp only [Act.put, List.getElem_toArray, List.getElem_cons_zero, List.getElem_cons_succ, List.setIfInBounds_toArray, List.set_cons_zero, List.set_cons_succ]
            refine wpAnyH_take (i := 1) (v := ?_) rfl (by kernel_rfl) (by kernel_rfl) (by kernel_rfl) (fun _ _ _ h => h) (Or.inl ⟨by rfl, ?_⟩) trivial ?_
            rotate_left
            · (intro wS hSw; (try dsimp only at hSw); go_simp; try with_reducible rfl)
            simp only [Act.put, List.getElem_toArray, List.getElem_cons_zero, List.getElem_cons_succ, List.setIfInBounds_toArray, List.set_cons_zero, List.set_cons_succ]
            refine wpAnyH_take (i := 2) (v := ?_) rfl (by kernel_rfl) (by kernel_rfl) (by kernel_rfl) (fun _ _ _ h => h) (Or.inl ⟨by rfl, ?_⟩) trivial ?_
            rotate_left
            · (intro wS hSw; (try dsimp only at hSw); go_simp; try with_reducible rfl)
            simp only [Act.put, List.getElem_toArray, List.getElem_cons_zero, List.getElem_cons_succ, List.setIfInBounds_toArray, List.set_cons_zero, List.set_cons_succ]
            refine wpAnyH_take (i := 3) (v := ?_) rfl (by kernel_rfl) (by kernel_rfl) (by kernel_rfl) (fun _ _ _ h => h) (Or.inl ⟨by rfl, ?_⟩) trivial ?_
            rotate_left
            · (intro wS hSw; (try dsimp only at hSw); go_simp; try with_reducible rfl)
            simp only [Act.put, List.getElem_toArray, List.getElem_cons_zero, List.getElem_cons_succ, List.setIfInBounds_toArray, List.set_cons_zero, List.set_cons_succ]
            refine wpAnyH_take (i := 4) (v := ?_) rfl (by kernel_rfl) (by kernel_rfl) (by kernel_rfl) (fun _ _ _ h => h) (Or.inl ⟨by rfl, ?_⟩) trivial ?_
            rotate_left
            · (intro wS hSw; (try dsimp only at hSw); go_simp; try with_reducible rfl)
            simp only [Act.put, List.getElem_toArray, List.getElem_cons_zero, List.getElem_cons_succ, List.setIfInBounds_toArray, List.set_cons_zero, List.set_cons_succ]
            refine wpAnyH_take (i := 6) (v := ?_) rfl (by kernel_rfl) (by kernel_rfl) (by kernel_rfl) (fun _ _ _ h => h) (Or.inl ⟨by rfl, ?_⟩) trivial ?_
            rotate_left
            · (intro wS hSw; (try dsimp only at hSw); go_simp; try with_reducible rfl)
            simp only [Act.put, List.getElem_toArray, List.getElem_cons_zero, List.getElem_cons_succ, List.setIfInBounds_toArray, List.set_cons_zero, List.set_cons_succ]
            refine wpAnyH_take (i := 7) (v := ?_) rfl (by kernel_rfl) (by kernel_rfl) (by kernel_rfl) (fun _ _ _ h => h) (Or.inl ⟨by rfl, ?_⟩) trivial ?_
            rotate_left
            · (intro wS hSw; (try dsimp only at hSw); go_simp; try with_reducible rfl)
            simp only [Act.put, List.getElem_toArray, List.getElem_cons_zero, List.getElem_cons_succ, List.setIfInBounds_toArray, List.set_cons_zero, List.set_cons_succ]
            refine wpAnyH_take (i := 8) (v := ?_) rfl (by kernel_rfl) (by kernel_rfl) (by kernel_rfl) (fun _ _ _ h => h) (Or.inl ⟨by rfl, ?_⟩) trivial ?_
            rotate_left
            · (intro wS hSw; (try dsimp only at hSw); go_simp; try with_reducible rfl)
            simp only [Act.put, List.getElem_toArray, List.getElem_cons_zero, List.getElem_cons_succ, List.setIfInBounds_toArray, List.set_cons_zero, List.set_cons_succ]
            refine wpAnyH_ready (rs := [5, 9]) (by kernel_rfl) (by simp) ?_
            refine AllReadyH.cons rfl (fun K hK => ?_) (AllReadyH.cons rfl (fun K hK => ?_) AllReadyH.nil)
            · go_simp
              refine hK.out _ _ trivial (fun hHeld => ?_)
              clear hK K hHeld
              try simp only [Act.put, List.getElem_toArray, List.getElem_cons_zero, List.getElem_cons_succ, List.setIfInBounds_toArray, List.set_cons_zero, List.set_cons_succ]
              refine wpAnyH_ready (rs := [9]) (by kernel_rfl) (by simp) ?_
              refine AllReadyH.cons rfl (fun K hK => ?_) AllReadyH.nil
              go_simp
              refine hK.out _ _ trivial (fun hHeld => ?_)
              clear hK K hHeld
              try simp only [Act.put, List.getElem_toArray, List.getElem_cons_zero, List.getElem_cons_succ, List.setIfInBounds_toArray, List.set_cons_zero, List.set_cons_succ]
              refine wpAnyH_take (i := 10) (v := ?_) rfl (by kernel_rfl) (by kernel_rfl) (by kernel_rfl) (fun _ _ _ h => h) (Or.inl ⟨by rfl, ?_⟩) trivial ?_
              rotate_left
              · (intro wS hSw; (try dsimp only at hSw); go_simp; try with_reducible rfl)
              simp only [Act.put, List.getElem_toArray, List.getElem_cons_zero, List.getElem_cons_succ, List.setIfInBounds_toArray, List.set_cons_zero, List.set_cons_succ]
              refine wpAnyH_take (i := 11) (v := ?_) rfl (by kernel_rfl) (by kernel_rfl) (by kernel_rfl) (fun _ _ _ h => h) (Or.inl ⟨by rfl, ?_⟩) trivial ?_
              rotate_left
              · (intro wS hSw; (try dsimp only at hSw); go_simp; try with_reducible rfl)
              simp only [Act.put, List.getElem_toArray, List.getElem_cons_zero, List.getElem_cons_succ, List.setIfInBounds_toArray, List.set_cons_zero, List.set_cons_succ]
              refine wpAnyH_ready (rs := [12]) (by kernel_rfl) (by simp) ?_
              refine AllReadyH.cons rfl (fun K hK => ?_) AllReadyH.nil
              go_simp
              refine hK.out _ _ trivial (fun hHeld => ?_)
              clear hK K hHeld
              try simp only [Act.put, List.getElem_toArray, List.getElem_cons_zero, List.getElem_cons_succ, List.setIfInBounds_toArray, List.set_cons_zero, List.set_cons_succ]
              refine wpAnyH_done (by kernel_rfl) ?_ _
              go_wp2_with fail
              go_roundw
              case rel => exact ⟨j + 1, _, rfl, by omega, by go_num, by rw [E.out], Lib.hid (HNX.out), Lib.hid HBX.out⟩
              case measure => simp [intOf]; omega
            · go_simp
              refine hK.out _ _ trivial (fun hHeld => ?_)
              clear hK K hHeld
              try simp only [Act.put, List.getElem_toArray, List.getElem_cons_zero, List.getElem_cons_succ, List.setIfInBounds_toArray, List.set_cons_zero, List.set_cons_succ]
              refine wpAnyH_ready (rs := [5]) (by kernel_rfl) (by simp) ?_
              refine AllReadyH.cons rfl (fun K hK => ?_) AllReadyH.nil
              go_simp
              refine hK.out _ _ trivial (fun hHeld => ?_)
              clear hK K hHeld
              try simp only [Act.put, List.getElem_toArray, List.getElem_cons_zero, List.getElem_cons_succ, List.setIfInBounds_toArray, List.set_cons_zero, List.set_cons_succ]
              refine wpAnyH_take (i := 10) (v := ?_) rfl (by kernel_rfl) (by kernel_rfl) (by kernel_rfl) (fun _ _ _ h => h) (Or.inl ⟨by rfl, ?_⟩) trivial ?_
              rotate_left
              · (intro wS hSw; (try dsimp only at hSw); go_simp; try with_reducible rfl)
              simp only [Act.put, List.getElem_toArray, List.getElem_cons_zero, List.getElem_cons_succ, List.setIfInBounds_toArray, List.set_cons_zero, List.set_cons_succ]
              refine wpAnyH_take (i := 11) (v := ?_) rfl (by kernel_rfl) (by kernel_rfl) (by kernel_rfl) (fun _ _ _ h => h) (Or.inl ⟨by rfl, ?_⟩) trivial ?_
              rotate_left
              · (intro wS hSw; (try dsimp only at hSw); go_simp; try with_reducible rfl)
              simp only [Act.put, List.getElem_toArray, List.getElem_cons_zero, List.getElem_cons_succ, List.setIfInBounds_toArray, List.set_cons_zero, List.set_cons_succ]
              refine wpAnyH_ready (rs := [12]) (by kernel_rfl) (by simp) ?_
              refine AllReadyH.cons rfl (fun K hK => ?_) AllReadyH.nil
              go_simp
              refine hK.out _ _ trivial (fun hHeld => ?_)
              clear hK K hHeld
              try simp only [Act.put, List.getElem_toArray, List.getElem_cons_zero, List.getElem_cons_succ, List.setIfInBounds_toArray, List.set_cons_zero, List.set_cons_succ]
              refine wpAnyH_done (by kernel_rfl) ?_ _
              go_wp2_with fail
              go_roundw
              case rel => exact ⟨j + 1, _, rfl, by omega, by go_num, by rw [E.out], Lib.hid (HNX.out), Lib.hid HBX.out⟩
              case measure => simp [intOf]; omega

        · obtain rfl : la = j := by omega
          rw [HTA.out]
          clear h hj
          obtain ⟨t, ht⟩ : ∃ t, totL a = t := ⟨_, rfl⟩
          have HT := Lib.hid ht
          rw [ht]
          clear ht
          have HWW := Lib.hid (HB.out.trans (HW.out.mono HB.out.size))
          have HAW := Lib.hid (IsI.kept HA.out HWW.out); have HBW := Lib.hid (IsI.kept HBI.out HWW.out)
          have HSW := Lib.hid (IsI.kept HS.out HW.out)
          rw [HLA.out] at HAW; rw [HLB.out] at HBW
          have HWI : Hid (IsI wr wv ((chF K 101 a).map totL)) := Lib.hid (HWF.out _ _ _ HO.out)
          have K0 := Lib.hid (wider_any _ a K wr HAW.out (by have := HLA.out; omega) hK1 (by omega))
          unfold WidR at K0
          have HTW : Hid (totL ((chF K 101 a).map totL) = t) := Lib.hid (by rw [HTO.out]; exact HT.out)
          have HCL := HLW.out
          clear HSI HT0 HTA HSF hm1 hm2 hm3 HIA HIB HRA HRB HO HWF HTO HLW
          go_wp2_with fail
          refine K0.out.mono ?_
          rintro e W1 ⟨v1, rfl, hv1, b1⟩
          have HV1 := Lib.hid hv1
          have H1 := Lib.hid b1
          clear hv1 b1 K0
          go_wp2_with fail
          refine (ints_same v1 wv _ W1 HV1.out (IsI.kept HWI.out H1.out) (by omega)).mono ?_
          rintro e W2 ⟨rfl, b2⟩
          have HV2 := Lib.hid (IsI.kept HV1.out b2)
          have H2 := Lib.hid (H1.out.trans (b2.mono H1.out.size))
          clear b2 H1
          go_wp2_with fail
          refine (htot_b v1 _ W2 HV2.out (by omega)).mono ?_
          rintro e W3 ⟨rfl, b3⟩
          have H3 := Lib.hid (H2.out.trans (b3.mono H2.out.size))
          rw [HTW.out]
          have htt : (t == t) = true := by simp
          clear b3 H2
          go_wp2_with fail
          refine (hadd_any _ _ a b W3 (IsI.kept HAW.out H3.out) (IsI.kept HBW.out H3.out) (by have := HLA.out; omega) (by have := HLB.out; omega)).mono ?_
          rintro e W4 ⟨v2, rfl, hv2, b4⟩
          have HV4 := Lib.hid hv2
          have H4 := Lib.hid (H3.out.trans (b4.mono H3.out.size))
          clear hv2 b4 H3
          have hl2 : (sumL a b).length ≤ 1000 := by unfold sumL; rw [rowL_len]; have := HLA.out; have := HLB.out; omega
          go_wp2_with fail
          refine (ints_same v2 sv _ W4 HV4.out (IsI.kept HSW.out H4.out) hl2).mono ?_
          rintro e W5 ⟨rfl, b5⟩
          have H5 := Lib.hid (H4.out.trans (b5.mono H4.out.size))
          clear b5 H4
          go_wp2_with fail
          refine (htot_b _ a W5 (IsI.kept HAW.out H5.out) (by have := HLA.out; omega)).mono ?_
          rintro e W6 ⟨rfl, b6⟩
          have H6 := Lib.hid (H5.out.trans (b6.mono H5.out.size))
          rw [HT.out]
          clear b6 H5
          go_wp2_with fail
          refine (hialive W6).mono ?_
          rintro e W7 ⟨rfl, b7⟩
          have H7 := Lib.hid (HWW.out.trans ((H6.out.trans (b7.mono H6.out.size)).mono HWW.out.size))
          clear b7
          go_wp2_with fail
          go_ret
          exact ⟨rfl, H7.out⟩
end Go.Proofs.Ytnjdeikikdieoaa
