/- Parking: how one car waits for floors. -/
import Derived.Test.YtloplambpfjioaaRows
import Derived.Test.YtloplambpfjioaaRowKit
import Derived.Test.YtloplambpfjioaaRowS
import Derived.Test.YtloplambpfjioaaRowZ
import Derived.Test.YtloplambpfjioaaSlicesEq
import Derived.Test.YtloplambpfjioaaSlicesEqM
import Derived.Test.YtloplambpfjioaaRowL
import Derived.Test.YtloplambpfjioaaRowM
import Derived.Test.YtloplambpfjioaaMakeI
import Derived.Test.YtloplambpfjioaaBlocks
import Derived.Test.YtloplambpfjioaaParkB
import Derived.Test.YtloplambpfjioaaAtKit
import Derived.Test.YtloplambpfjioaaPlaceA
import Derived.Test.YtloplambpfjioaaShelf
import Derived.WalkKit
import Derived.IntWalk
import Derived.Lib.Hide
import Derived.WalkSpells
import Derived.WalkLawsBesides
import Derived.Laws.CopyOwn
import Derived.Laws.MakeOwn
import Derived.Laws.OwnMore
import Derived.OwnWalk
import Derived.Deep.QuietTactic
import Derived.BigQuiet
import Derived.Deep.RegionHeld3
import Derived.Deep.LoopGhost
import Derived.BigRegion
import Derived.Deep.AppendLies
import Derived.Maps.AppendAt
import Derived.Below
namespace Go.Proofs.Ytloplambpfjioaa
open Go.RowKit
set_option linter.unusedSimpArgs false
set_option linter.unusedVariables false
theorem sm_bd {zs : List Int} {n : Nat} (h : RgP zs n) (b : Nat) : ∀ k, b + k ≤ n → 0 ≤ sm (zat zs) b k ∧ sm (zat zs) b k ≤ k * 1048576
  | 0, _ => by rw [sm_zero]; constructor <;> simp
  | k + 1, hk => by
    have ih := sm_bd h b k (by omega)
    have := h.2.2 (b + k) (by omega)
    rw [sm_succ]; omega
theorem sgl_bd {zs : List Int} {n : Nat} (h : RgP zs n) (m b : Nat) (hm : m < n) : ∀ k, b + k ≤ n → 0 ≤ sgl (zat zs) m b k ∧ sgl (zat zs) m b k ≤ k * 134217728
  | 0, _ => by unfold sgl; rw [sm_zero]; constructor <;> simp
  | k + 1, hk => by
    have ih := sgl_bd h m b hm k (by omega)
    have hz := h.2.2 (b + k) (by omega)
    have hd : 0 ≤ dst ((b + k : Nat) : Int) m ∧ dst ((b + k : Nat) : Int) m ≤ 128 := by
      have := h.2.1
      unfold dst; split <;> omega
    have := mul_bd hz.1 hz.2 hd.1 hd.2
    unfold sgl at ih ⊢
    rw [sm_succ]
    omega
theorem sgl_succ (l : Nat → Int) (s : Int) (b k : Nat) : sgl l s b (k + 1) = sgl l s b k + l (b + k) * dst ((b + k : Nat) : Int) s := rfl
theorem keepQ {P : Program} {f : Nat} {xs : Array Value} {W : World} {v : Value} (h : Calls P f xs W fun e w' => e = .returned v ∧ W = w') : Calls P f xs W fun e w' => e = .returned v ∧ Below W.heap.size W w' := h.mono fun e w' h => ⟨h.1, by rw [← h.2]; exact Below.refl _ _⟩
def SiR (zs : List Int) (b e : Nat) (w : World) (en : Ending) (w' : World) : Prop := ∃ m, IsMed (zat zs) b (e - b) m ∧ en = .returned (.agg #[.int .i64 b, .int .i64 m, .int .i64 (sgl (zat zs) m b (e - b))]) ∧ Below w.heap.size w w'
set_option maxRecDepth 100000 in
set_option maxHeartbeats 20000000 in
theorem single_any (A : Option Addr) (c n b e : Nat) (zs : List Int) (w : World) (hn : zs.length = n) (hq : RgP zs n) (hbe : b < e) (hen : e ≤ n) (hnc : n ≤ c) (hcm : c ≤ maxLen) (hr : RdI w .i64 A zs) :
    Calls Try.prog 22 #[.slice A n c, .int .i64 b, .int .i64 e] w (SiR zs b e w) := by
  have hM : maxLen ≤ 9223372036854775807 := by decide
  obtain ⟨g, o, rfl, hlt, hcell⟩ := rdI_row hr (by have := hq.1; omega)
  rw [hn] at hcell
  have HC := Lib.hid hcell
  have HQ := Lib.hid hq
  have h128 := hq.2.1
  have hbn : b < n := by omega
  have hbc : b < c := by omega
  have x1 : (b : Int) ≤ (e : Int) := by omega
  have x2 : (e : Int) ≤ (c : Int) := by omega
  have x3 : (b : Int) < (c : Int) := by omega
  have x4 : (b : Int) ≤ (c : Int) := by omega
  have x5 : (b : Int) < (n : Int) := by omega
  have x6 : (e : Int) ≤ (n : Int) := by omega
  have x7 : e ≤ c := by omega
  have x8 : b ≤ e := by omega
  obtain ⟨k, hk⟩ : ∃ k, e - b = k := ⟨_, rfl⟩
  have HKE : Hid (e = b + k) := Lib.hid (by omega)
  have hk0 : 0 < k := by omega
  have hkn : b + k ≤ n := by omega
  have BR := Blk.new w #[.int .i64 0, .int .i64 0, .int .i64 0] 43
  have BE : Below w.heap.size w (w.alloc (.cells #[.int .i64 0, .int .i64 0, .int .i64 0] 43)) := (Below.refl w.heap.size w).alloc (Nat.le_refl _) _
  have HB := Lib.hid BR; have EE := Lib.hid BE
  obtain ⟨R, hR⟩ : ∃ R : Ending → World → Prop, SiR zs b e w = R := ⟨_, rfl⟩
  have HR := Lib.hid hR
  rw [hR]
  clear hr hcell hq BR BE hR
  go_enter Try.func22, Try.ntmps22
  go_wp2_with fail
  try rw [hk]
  go_loopw [7, 19] (fun sv i wr => ∃ (j : Nat) (s : Int), j ≤ k ∧ s = sm (zat zs) b j ∧ sv = .int .i64 s ∧ i = .int .i64 j ∧ wr = w.alloc (.cells #[.int .i64 0, .int .i64 0, .int .i64 0] 43)) (fun _ i _ => k - (intOf i).toNat)
  case atStart => exact ⟨0, 0, Nat.zero_le _, rfl, rfl, rfl, rfl⟩
  obtain ⟨j, s, hj, hs, rfl, rfl, rfl⟩ := hrel
  by_cases hjk : j < k
  · have hji : (j : Int) < (k : Int) := by omega
    have c0 : (w.alloc (.cells #[.int .i64 0, .int .i64 0, .int .i64 0] 43)).cell? ⟨g, o + (b + j), none⟩ = some (.int .i64 (zat zs (b + j))) := (EE.out.cell (p := ⟨g, o + (b + j), none⟩) hlt).trans (HC.out (b + j) (by omega))
    rw [← Nat.add_assoc] at c0
    have hz := HQ.out.2.2 (b + j) (by omega)
    have hs1 := sm_succ (zat zs) b j
    have hbd := sm_bd HQ.out b j (by omega)
    rw [← hs] at hs1 hbd
    obtain ⟨x, hx⟩ : ∃ x, zat zs (b + j) = x := ⟨_, rfl⟩
    rw [hx] at c0 hz hs1
    have HS1 := Lib.hid hs1
    have q3 : IntKind.i64.wrap (s + x) = s + x := IntWalk.i64_in _ (by omega)
    have q4 : wrap64 (s + x) = s + x := IntWalk.wrap64_in _ (by omega)
    clear hx hs hs1 hbd
    go_wp2_with fail
    go_roundw
    case rel => first | exact ⟨j + 1, s + x, by omega, HS1.out.symm, rfl, by go_num, rfl⟩ | exact ⟨j + 1, s + x, by omega, HS1.out.symm, rfl, by go_num, trivial⟩ | exact ⟨j + 1, by omega, HS1.out.symm, by go_num⟩ | (trace_state; sorry)
    case measure => simp [intOf] <;> omega
  obtain rfl : j = k := by omega
  have HS := Lib.hid hs
  have hs0 : 0 ≤ s ∧ s ≤ 134217728 := by have := sm_bd HQ.out b j hkn; rw [← hs] at this; omega
  clear hs
  go_wp2_with fail
  have c0 : (w.alloc (.cells #[.int .i64 0, .int .i64 0, .int .i64 0] 43)).cell? ⟨g, o + b, none⟩ = some (.int .i64 (zat zs b)) := (EE.out.cell (p := ⟨g, o + b, none⟩) hlt).trans (HC.out b hbn)
  obtain ⟨x0, hx0⟩ : ∃ x, zat zs b = x := ⟨_, rfl⟩
  rw [hx0] at c0
  have HX0 := Lib.hid hx0
  have hA := at1 c0
  have hB := HB.out; have hE := EE.out
  clear HB EE c0 hx0
  obtain ⟨V0, hV0⟩ : ∃ V, w.alloc (.cells #[.int .i64 0, .int .i64 0, .int .i64 0] 43) = V := ⟨_, rfl⟩
  rw [hV0] at hA hB hE ⊢
  have HA := Lib.hid hA; have HR' := Lib.hid hB; have EE := Lib.hid hE
  clear hA hB hE hV0
  have kR'0 : V0.cell? ⟨w.heap.size, 0, none⟩ = some (.int .i64 0) := HR'.out.cell 0
  have kR'1 : V0.cell? ⟨w.heap.size, 1, none⟩ = some (.int .i64 0) := HR'.out.cell 1
  have kR'2 : V0.cell? ⟨w.heap.size, 2, none⟩ = some (.int .i64 0) := HR'.out.cell 2
  have kA0 : V0.cell? ⟨g, o + b, none⟩ = some (.int .i64 x0) := HA.out 0 _ rfl
  go_wp2_with fail
  have sK : ∀ X, Blk X (w.heap.size) 43 #[.int .i64 0, .int .i64 0, .int .i64 0] → At X g (o + b) #[.int .i64 x0] → (fun X => X.cell? ⟨w.heap.size, 0, none⟩ = some (.int .i64 0) ∧ X.cell? ⟨w.heap.size, 1, none⟩ = some (.int .i64 0) ∧ X.cell? ⟨w.heap.size, 2, none⟩ = some (.int .i64 0) ∧ X.cell? ⟨g, o + b, none⟩ = some (.int .i64 x0)) X := fun X hR' hA => ⟨hR'.cell 0, hR'.cell 1, hR'.cell 2, hA 0 _ rfl⟩
  have LR'0 := Lib.hid (HR'.out.drew)
  have LA0 := Lib.hid (HA.out.drew)
  have E0 := Lib.hid (EE.out.drew)
  clear kR'0 kR'1 kR'2 kA0
  refine wp_region_held_drew (S := (fun X => X.cell? ⟨w.heap.size, 0, none⟩ = some (.int .i64 0) ∧ X.cell? ⟨w.heap.size, 1, none⟩ = some (.int .i64 0) ∧ X.cell? ⟨w.heap.size, 2, none⟩ = some (.int .i64 0) ∧ X.cell? ⟨g, o + b, none⟩ = some (.int .i64 x0))) (by kernel_rfl) (sK _ LR'0.out LA0.out) (fun hHeld => ?_)
  clear hHeld
  refine wpAnyH_take (i := 0) (v := ?_) rfl (by kernel_rfl) (by kernel_rfl) (by kernel_rfl) (fun _ _ _ h => h) (Or.inl ⟨by rfl, ?_⟩) (sK _ LR'0.out LA0.out) ?_
  rotate_left
  · (intro wS hSw; (try dsimp only at hSw); go_simp; try with_reducible rfl)
  simp only [Act.put, List.getElem_toArray, List.getElem_cons_zero, List.getElem_cons_succ, List.setIfInBounds_toArray, List.set_cons_zero, List.set_cons_succ]
  refine wpAnyH_take (i := 1) (v := ?_) rfl (by kernel_rfl) (by kernel_rfl) (by kernel_rfl) (fun _ _ _ h => h) (Or.inl ⟨by rfl, ?_⟩) (sK _ LR'0.out LA0.out) ?_
  rotate_left
  · (intro wS hSw; (try dsimp only at hSw); go_simp; try with_reducible rfl)
  simp only [Act.put, List.getElem_toArray, List.getElem_cons_zero, List.getElem_cons_succ, List.setIfInBounds_toArray, List.set_cons_zero, List.set_cons_succ]
  refine wpAnyH_take (i := 2) (v := ?_) rfl (by kernel_rfl) (by kernel_rfl) (by kernel_rfl) (fun _ _ _ h => h) (Or.inl ⟨by rfl, ?_⟩) (sK _ LR'0.out LA0.out) ?_
  rotate_left
  · (intro wS hSw; (try dsimp only at hSw); go_simp; try with_reducible rfl)
  simp only [Act.put, List.getElem_toArray, List.getElem_cons_zero, List.getElem_cons_succ, List.setIfInBounds_toArray, List.set_cons_zero, List.set_cons_succ]
  refine wpAnyH_take (i := 3) (v := ?_) rfl (by kernel_rfl) (by kernel_rfl) (by kernel_rfl) (fun _ _ _ h => h) (Or.inl ⟨by rfl, ?_⟩) (sK _ LR'0.out LA0.out) ?_
  rotate_left
  · (intro wS hSw; (try dsimp only at hSw); go_simp; try with_reducible rfl)
  simp only [Act.put, List.getElem_toArray, List.getElem_cons_zero, List.getElem_cons_succ, List.setIfInBounds_toArray, List.set_cons_zero, List.set_cons_succ]
  refine wpAnyH_take (i := 4) (v := ?_) rfl (by kernel_rfl) (by kernel_rfl) (by kernel_rfl) (fun _ _ _ h => h) (Or.inl ⟨by rfl, ?_⟩) (sK _ LR'0.out LA0.out) ?_
  rotate_left
  · (intro wS hSw; (try dsimp only at hSw); go_simp; try with_reducible rfl)
  simp only [Act.put, List.getElem_toArray, List.getElem_cons_zero, List.getElem_cons_succ, List.setIfInBounds_toArray, List.set_cons_zero, List.set_cons_succ]
  refine wpAnyH_take (i := 5) (v := ?_) rfl (by kernel_rfl) (by kernel_rfl) (by kernel_rfl) (fun _ _ _ h => h) (Or.inl ⟨by rfl, ?_⟩) (sK _ LR'0.out LA0.out) ?_
  rotate_left
  · (intro wS hSw; (try dsimp only at hSw); go_simp; try with_reducible rfl)
  simp only [Act.put, List.getElem_toArray, List.getElem_cons_zero, List.getElem_cons_succ, List.setIfInBounds_toArray, List.set_cons_zero, List.set_cons_succ]
  refine wpAnyH_take (i := 6) (v := ?_) rfl (by kernel_rfl) (by kernel_rfl) (by kernel_rfl) (fun _ _ _ h => h) (Or.inl ⟨by rfl, ?_⟩) (sK _ LR'0.out LA0.out) ?_
  rotate_left
  · (intro wS hSw; (try dsimp only at hSw); go_simp; try with_reducible rfl)
  simp only [Act.put, List.getElem_toArray, List.getElem_cons_zero, List.getElem_cons_succ, List.setIfInBounds_toArray, List.set_cons_zero, List.set_cons_succ]
  refine wpAnyH_done (by kernel_rfl) ?_ _
  have HR' := LR'0
  have HA := LA0
  have EE := E0
  have kR'0 : V0.drew.cell? ⟨w.heap.size, 0, none⟩ = some (.int .i64 0) := HR'.out.cell 0
  have kR'1 : V0.drew.cell? ⟨w.heap.size, 1, none⟩ = some (.int .i64 0) := HR'.out.cell 1
  have kR'2 : V0.drew.cell? ⟨w.heap.size, 2, none⟩ = some (.int .i64 0) := HR'.out.cell 2
  have kA0 : V0.drew.cell? ⟨g, o + b, none⟩ = some (.int .i64 x0) := HA.out 0 _ rfl
  clear kR'0 kR'1 kR'2 kA0
  obtain ⟨V1, hV1⟩ : ∃ V, V0.drew = V := ⟨_, rfl⟩
  have gR := HR'.out; have gE := EE.out; clear HR' EE HA
  try rw [hV1]
  rw [hV1] at gR gE
  have HR' := Lib.hid gR; have EE := Lib.hid gE
  clear gR gE hV1
  go_wp2_with fail
  go_loopw [10, 11] (fun av bv wr => ∃ (a : Nat) (s2 : Int), b ≤ a ∧ a < e ∧ s2 = sm (zat zs) b (a + 1 - b) ∧ Hid (b < a → 2 * sm (zat zs) b (a - b) < s) ∧ av = .int .i64 a ∧ bv = .int .i64 s2 ∧ wr = V1) (fun av _ _ => e - (intOf av).toNat)
  case atStart => exact ⟨b, x0, Nat.le_refl _, hbe, by rw [show b + 1 - b = 1 by omega, sm_succ, sm_zero, Nat.add_zero, HX0.out]; omega, Lib.hid (fun h => absurd h (Nat.lt_irrefl _)), rfl, rfl, rfl⟩
  obtain ⟨a, s2, hba, hae, hs2, HL2, rfl, rfl, rfl⟩ := hrel
  have HBA := Lib.hid hba; have HAE := Lib.hid hae
  have HT2 : Hid (0 ≤ s2 ∧ s2 ≤ 134217728) := Lib.hid (by have := sm_bd HQ.out b (a + 1 - b) (by omega); rw [← hs2] at this; omega)
  have HS2 := Lib.hid hs2
  have HJ0 := Lib.hid hs0
  clear hs2 hba hae hs0
  obtain ⟨T, hT⟩ : ∃ T, 2 * s2 = T := ⟨_, rfl⟩
  have q1 : IntKind.i64.wrap (2 * s2) = T := by rw [hT]; exact IntWalk.i64_in _ (by have := HT2.out; omega)
  have q2 : wrap64 (2 * s2) = T := by rw [hT]; exact IntWalk.wrap64_in _ (by have := HT2.out; omega)
  have HTT := Lib.hid hT
  clear hT
  by_cases hlt2 : T < s
  · have HL2' : Hid (2 * s2 < s) := Lib.hid (by rw [HTT.out]; exact hlt2)
    have HA1 : Hid (a + 1 < e) := Lib.hid (by
      rcases Nat.lt_or_ge (a + 1) e with h | h
      · exact h
      · have e2 : a + 1 - b = j := by have := HAE.out; have := HKE.out; omega
        have h1 := HS2.out
        rw [e2, ← HS.out] at h1
        have := HL2'.out; have := HT2.out
        omega)
    obtain ⟨a1, ha1⟩ : ∃ a1, a + 1 = a1 := ⟨_, rfl⟩
    rw [ha1] at HA1
    have hai : (a1 : Int) < (n : Int) := by have := HA1.out; omega
    have haj : a1 < n := by have := HA1.out; omega
    have c1 : wr.cell? ⟨g, o + a1, none⟩ = some (.int .i64 (zat zs a1)) := (EE.out.cell (p := ⟨g, o + a1, none⟩) hlt).trans (HC.out a1 haj)
    have hz := HQ.out.2.2 a1 haj
    have hs3 : sm (zat zs) b (a1 + 1 - b) = s2 + zat zs a1 := by
      have hb := HBA.out
      rw [show a1 + 1 - b = (a + 1 - b) + 1 by omega, sm_succ, ← HS2.out, show b + (a + 1 - b) = a1 by omega]
    obtain ⟨y, hy⟩ : ∃ y, zat zs a1 = y := ⟨_, rfl⟩
    rw [hy] at c1 hz hs3
    obtain ⟨s3, hs4⟩ : ∃ s3, s2 + y = s3 := ⟨_, rfl⟩
    rw [hs4] at hs3
    have HS3 := Lib.hid hs3
    have HL3 : Hid (b < a1 → 2 * sm (zat zs) b (a1 - b) < s) := Lib.hid (fun _ => by rw [← ha1, ← HS2.out]; exact HL2'.out)
    have HB1 : Hid (b ≤ a1) := Lib.hid (by have := HBA.out; omega)
    have HM1 : Hid (e - a1 < e - a) := Lib.hid (by have := HAE.out; omega)
    have q3 : IntKind.i64.wrap (s2 + y) = s3 := by rw [← hs4]; exact IntWalk.i64_in _ (by have := HT2.out; omega)
    have q4 : wrap64 (s2 + y) = s3 := by rw [← hs4]; exact IntWalk.wrap64_in _ (by have := HT2.out; omega)
    have q5 : IntKind.i64.wrap ((a : Int) + 1) = ((a1 : Nat) : Int) := by rw [IntWalk.i64_in _ (by omega)]; omega
    have q6 : wrap64 ((a : Int) + 1) = (a1 : Int) := by rw [IntWalk.wrap64_in _ (by omega)]; omega
    clear hs3 hy hz hs4 ha1 haj
    go_wp2_with fail
    go_roundw
    case rel => first | exact ⟨a1, s3, HB1.out, HA1.out, HS3.out.symm, HL3, rfl, rfl, rfl⟩ | exact ⟨a1, s3, HB1.out, HA1.out, HS3.out.symm, HL3, rfl, rfl, trivial⟩ | exact ⟨a1, s3, HB1.out, HA1.out, HS3.out.symm, HL3, rfl, rfl⟩
    case measure => simp only [intOf, Int.toNat_natCast]; exact HM1.out
  have HMD : Hid (IsMed (zat zs) b j a) := Lib.hid ⟨HBA.out, by have := HKE.out; have := HAE.out; omega, by rw [← HS.out, ← HS2.out, HTT.out]; omega, by rw [← HS.out]; exact HL2.out⟩
  clear HL2 HS2
  go_wp2_with fail
  clear q1 q2 hlt2 HTT HT2 HBA
  have hx := HAE.out
  go_loopw [12, 13] (fun cv fv wq => ∃ (i : Nat) (v : Int), i ≤ j ∧ v = sgl (zat zs) a b i ∧ cv = .int .i64 v ∧ fv = .int .i64 ((b + i : Nat) : Int) ∧ Hid (Blk wq w.heap.size 43 #[.int .i64 0, .int .i64 0, .int .i64 0]) ∧ Hid (Below w.heap.size w wq)) (fun _ fv _ => e - (intOf fv).toNat)
  case atStart => exact ⟨0, 0, Nat.zero_le _, rfl, rfl, rfl, HR', EE⟩
  obtain ⟨i, v, hi, hv, rfl, rfl, HB, EE'⟩ := hrel
  have hbv := sgl_bd HQ.out a b (by omega) i (by omega)
  rw [← hv] at hbv
  obtain ⟨f, hf⟩ : ∃ f, b + i = f := ⟨_, rfl⟩
  rw [hf]
  have HV := Lib.hid hv; have HF := Lib.hid hf
  clear hv hf HR' EE
  have EE := EE'
  clear EE'
  
  by_cases hij0 : i < j
  · have hfi : (f : Int) < (e : Int) := by have := HKE.out; have := HF.out; omega
    have hfn : (f : Int) < (n : Int) := by omega
    have hfe : f < n := by omega
    have c1 := (EE.out.cell (p := ⟨g, o + f, none⟩) hlt).trans (HC.out f hfe)
    have hz := HQ.out.2.2 f hfe
    have hs1 := sgl_succ (zat zs) a b i
    rw [← HV.out, HF.out] at hs1
    obtain ⟨y, hy⟩ : ∃ y, zat zs f = y := ⟨_, rfl⟩
    rw [hy] at c1 hz hs1
    have HA := Lib.hid (at1 c1)
    have KF := Lib.hid (fun W => far_any f a W (by omega) (by omega) (by omega) (by omega))
    rw [far_dst] at KF
    have hd : 0 ≤ dst (f : Int) a ∧ dst (f : Int) a ≤ 128 := by unfold dst; split <;> omega
    obtain ⟨d, hdd⟩ : ∃ d, dst (f : Int) a = d := ⟨_, rfl⟩
    rw [hdd] at KF hd hs1
    have hmul := mul_bd hz.1 hz.2 hd.1 hd.2
    obtain ⟨t, ht⟩ : ∃ t, y * d = t := ⟨_, rfl⟩
    rw [ht] at hmul hs1
    have q1 : IntKind.i64.wrap (y * d) = t := by rw [ht]; exact IntWalk.i64_in _ (by omega)
    have q2 : wrap64 (y * d) = t := by rw [ht]; exact IntWalk.wrap64_in _ (by omega)
    have q3 : IntKind.i64.wrap (v + t) = v + t := IntWalk.i64_in _ (by omega)
    have q4 : wrap64 (v + t) = v + t := IntWalk.wrap64_in _ (by omega)
    have q5 : IntKind.i64.wrap ((f : Int) + 1) = (f : Int) + 1 := IntWalk.i64_in _ (by omega)
    have HS1 := Lib.hid hs1
    clear c1 hz hs1 hy hdd hd ht hmul
    have kB0 : wr.cell? ⟨w.heap.size, 0, none⟩ = some (.int .i64 0) := HB.out.cell 0
    have kB1 : wr.cell? ⟨w.heap.size, 1, none⟩ = some (.int .i64 0) := HB.out.cell 1
    have kB2 : wr.cell? ⟨w.heap.size, 2, none⟩ = some (.int .i64 0) := HB.out.cell 2
    have kA0 : wr.cell? ⟨g, o + f, none⟩ = some (.int .i64 y) := HA.out 0 _ rfl
    go_wp2_with fail
    have sK : ∀ X, Blk X (w.heap.size) 43 #[.int .i64 0, .int .i64 0, .int .i64 0] → At X g (o + f) #[.int .i64 y] → (fun X => X.cell? ⟨w.heap.size, 0, none⟩ = some (.int .i64 0) ∧ X.cell? ⟨w.heap.size, 1, none⟩ = some (.int .i64 0) ∧ X.cell? ⟨w.heap.size, 2, none⟩ = some (.int .i64 0) ∧ X.cell? ⟨g, o + f, none⟩ = some (.int .i64 y)) X := fun X hB hA => ⟨hB.cell 0, hB.cell 1, hB.cell 2, hA 0 _ rfl⟩
    have LB0 := Lib.hid (HB.out.drew)
    have LA0 := Lib.hid (HA.out.drew)
    have E0 := Lib.hid (EE.out.drew)
    clear kB0 kB1 kB2 kA0
    refine wp_region_held_drew (S := (fun X => X.cell? ⟨w.heap.size, 0, none⟩ = some (.int .i64 0) ∧ X.cell? ⟨w.heap.size, 1, none⟩ = some (.int .i64 0) ∧ X.cell? ⟨w.heap.size, 2, none⟩ = some (.int .i64 0) ∧ X.cell? ⟨g, o + f, none⟩ = some (.int .i64 y))) (by kernel_rfl) (sK _ LB0.out LA0.out) (fun hHeld => ?_)
    clear hHeld
    refine wpAnyH_take (i := 0) (v := ?_) rfl (by kernel_rfl) (by kernel_rfl) (by kernel_rfl) (fun _ _ _ h => h) (Or.inl ⟨by rfl, ?_⟩) (sK _ LB0.out LA0.out) ?_
    rotate_left
    · (intro wS hSw; (try dsimp only at hSw); go_simp; try with_reducible rfl)
    simp only [Act.put, List.getElem_toArray, List.getElem_cons_zero, List.getElem_cons_succ, List.setIfInBounds_toArray, List.set_cons_zero, List.set_cons_succ]
    refine wpAnyH_take (i := 1) (v := ?_) rfl (by kernel_rfl) (by kernel_rfl) (by kernel_rfl) (fun _ _ _ h => h) (Or.inl ⟨by rfl, ?_⟩) (sK _ LB0.out LA0.out) ?_
    rotate_left
    · (intro wS hSw; (try dsimp only at hSw); go_simp; try with_reducible rfl)
    simp only [Act.put, List.getElem_toArray, List.getElem_cons_zero, List.getElem_cons_succ, List.setIfInBounds_toArray, List.set_cons_zero, List.set_cons_succ]
    refine wpAnyH_take (i := 2) (v := ?_) rfl (by kernel_rfl) (by kernel_rfl) (by kernel_rfl) (fun _ _ _ h => h) (Or.inl ⟨by rfl, ?_⟩) (sK _ LB0.out LA0.out) ?_
    rotate_left
    · (intro wS hSw; (try dsimp only at hSw); go_simp; try with_reducible rfl)
    simp only [Act.put, List.getElem_toArray, List.getElem_cons_zero, List.getElem_cons_succ, List.setIfInBounds_toArray, List.set_cons_zero, List.set_cons_succ]
    refine wpAnyH_take (i := 3) (v := ?_) rfl (by kernel_rfl) (by kernel_rfl) (by kernel_rfl) (fun _ _ _ h => h) (Or.inl ⟨by rfl, ?_⟩) (sK _ LB0.out LA0.out) ?_
    rotate_left
    · (intro wS hSw; (try dsimp only at hSw); go_simp; try with_reducible rfl)
    simp only [Act.put, List.getElem_toArray, List.getElem_cons_zero, List.getElem_cons_succ, List.setIfInBounds_toArray, List.set_cons_zero, List.set_cons_succ]
    refine wpAnyH_take (i := 4) (v := ?_) rfl (by kernel_rfl) (by kernel_rfl) (by kernel_rfl) (fun _ _ _ h => h) (Or.inl ⟨by rfl, ?_⟩) (sK _ LB0.out LA0.out) ?_
    rotate_left
    · (intro wS hSw; (try dsimp only at hSw); go_simp; try with_reducible rfl)
    simp only [Act.put, List.getElem_toArray, List.getElem_cons_zero, List.getElem_cons_succ, List.setIfInBounds_toArray, List.set_cons_zero, List.set_cons_succ]
    refine wpAnyH_take (i := 5) (v := ?_) rfl (by kernel_rfl) (by kernel_rfl) (by kernel_rfl) (fun _ _ _ h => h) (Or.inl ⟨by rfl, ?_⟩) (sK _ LB0.out LA0.out) ?_
    rotate_left
    · (intro wS hSw; (try dsimp only at hSw); go_simp; try with_reducible rfl)
    simp only [Act.put, List.getElem_toArray, List.getElem_cons_zero, List.getElem_cons_succ, List.setIfInBounds_toArray, List.set_cons_zero, List.set_cons_succ]
    refine wpAnyH_take (i := 6) (v := ?_) rfl (by kernel_rfl) (by kernel_rfl) (by kernel_rfl) (fun _ _ _ h => h) (Or.inl ⟨by rfl, ?_⟩) (sK _ LB0.out LA0.out) ?_
    rotate_left
    · (intro wS hSw; (try dsimp only at hSw); go_simp; try with_reducible rfl)
    simp only [Act.put, List.getElem_toArray, List.getElem_cons_zero, List.getElem_cons_succ, List.setIfInBounds_toArray, List.set_cons_zero, List.set_cons_succ]
    refine wpAnyH_ready (rs := [7]) (by kernel_rfl) (by simp) ?_
    refine AllReadyH.cons rfl (fun K hK => ?_) AllReadyH.nil
    go_simp
    refine (keepQ (KF.out _)).mono ?_
    rintro e r1 ⟨rfl, hb⟩
    have LB1 := Lib.hid (Blk.next (w := wr.drew) LB0.out hb)
    have LA1 := Lib.hid (At.next (w := wr.drew) LA0.out hb)
    have E1 := Lib.hid (E0.out.trans (hb.mono E0.out.size))
    clear hb
    go_wp2_with fail
    refine hK.out _ _ (sK _ LB1.out LA1.out) (fun hHeld => ?_)
    clear hK K hHeld
    try simp only [Act.put, List.getElem_toArray, List.getElem_cons_zero, List.getElem_cons_succ, List.setIfInBounds_toArray, List.set_cons_zero, List.set_cons_succ]
    refine wpAnyH_take (i := 8) (v := ?_) rfl (by kernel_rfl) (by kernel_rfl) (by kernel_rfl) (fun _ _ _ h => h) (Or.inl ⟨by rfl, ?_⟩) (sK _ LB1.out LA1.out) ?_
    rotate_left
    · (intro wS hSw; (try dsimp only at hSw); go_simp; try with_reducible rfl)
    simp only [Act.put, List.getElem_toArray, List.getElem_cons_zero, List.getElem_cons_succ, List.setIfInBounds_toArray, List.set_cons_zero, List.set_cons_succ]
    refine wpAnyH_take (i := 9) (v := ?_) rfl (by kernel_rfl) (by kernel_rfl) (by kernel_rfl) (fun _ _ _ h => h) (Or.inl ⟨by rfl, ?_⟩) (sK _ LB1.out LA1.out) ?_
    rotate_left
    · (intro wS hSw; (try dsimp only at hSw); go_simp; try with_reducible rfl)
    simp only [Act.put, List.getElem_toArray, List.getElem_cons_zero, List.getElem_cons_succ, List.setIfInBounds_toArray, List.set_cons_zero, List.set_cons_succ]
    refine wpAnyH_take (i := 10) (v := ?_) rfl (by kernel_rfl) (by kernel_rfl) (by kernel_rfl) (fun _ _ _ h => h) (Or.inl ⟨by rfl, ?_⟩) (sK _ LB1.out LA1.out) ?_
    rotate_left
    · (intro wS hSw; (try dsimp only at hSw); go_simp; try with_reducible rfl)
    simp only [Act.put, List.getElem_toArray, List.getElem_cons_zero, List.getElem_cons_succ, List.setIfInBounds_toArray, List.set_cons_zero, List.set_cons_succ]
    refine wpAnyH_done (by kernel_rfl) ?_ _
    go_wp2_with fail
    go_roundw
    case rel => exact ⟨i + 1, v + t, by have := HKE.out; have := HF.out; omega, HS1.out.symm, rfl, by have := HF.out; simp; omega, LB1, E1⟩
    case measure => simp [intOf] <;> omega
  · have hfi : ¬ (f : Int) < (e : Int) := by have := HKE.out; have := HF.out; omega
    have hij : i = j := by have := HKE.out; have := HF.out; omega
    have k0 : wr.cell? ⟨w.heap.size, 0, none⟩ = some (.int .i64 0) := HB.out.cell 0
    have f0 : wr.frozen? ⟨w.heap.size, 0, none⟩ = false := HB.out.frozen 0
    have k1 : wr.cell? ⟨w.heap.size, 1, none⟩ = some (.int .i64 0) := HB.out.cell 1
    have f1 : wr.frozen? ⟨w.heap.size, 1, none⟩ = false := HB.out.frozen 1
    have k2 : wr.cell? ⟨w.heap.size, 2, none⟩ = some (.int .i64 0) := HB.out.cell 2
    have f2 : wr.frozen? ⟨w.heap.size, 2, none⟩ = false := HB.out.frozen 2
    go_wp2_with fail
    have BF : Blk (((wr.setCell ⟨w.heap.size, 0, none⟩ (.int .i64 b)).setCell ⟨w.heap.size, 1, none⟩ (.int .i64 a)).setCell ⟨w.heap.size, 2, none⟩ (.int .i64 v)) w.heap.size 43 #[.int .i64 b, .int .i64 a, .int .i64 v] := ((HB.out.set 0 (.int .i64 b)).set 1 (.int .i64 a)).set 2 (.int .i64 v)
    have EF : Below w.heap.size w (((wr.setCell ⟨w.heap.size, 0, none⟩ (.int .i64 b)).setCell ⟨w.heap.size, 1, none⟩ (.int .i64 a)).setCell ⟨w.heap.size, 2, none⟩ (.int .i64 v)) := ((EE.out.setCell (p := ⟨w.heap.size, 0, none⟩) (Nat.le_refl _) _).setCell (p := ⟨w.heap.size, 1, none⟩) (Nat.le_refl _) _).setCell (p := ⟨w.heap.size, 2, none⟩) (Nat.le_refl _) _
    have g0 := BF.cell 0; have g1 := BF.cell 1; have g2 := BF.cell 2
    have hv2 := HV.out; rw [hij] at hv2
    have hbj : e - b = j := by have := HKE.out; omega
    refine bodyPost_ret (v := .agg #[.int .i64 b, .int .i64 a, .int .i64 v]) (by simp [results, Try.results22, go_sem, g0, g1, g2]) rfl ?_
    rw [← HR.out]
    exact ⟨a, by rw [hbj]; exact HMD.out, by rw [hbj, ← hv2], EF⟩
end Go.Proofs.Ytloplambpfjioaa
