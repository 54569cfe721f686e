/- Zones: the least weight, looked for; its zones. -/
import Derived.Test.YtbjcigkakeffmabRows
import Derived.Test.YtbjcigkakeffmabRowKit
import Derived.Test.YtbjcigkakeffmabRowS
import Derived.Test.YtbjcigkakeffmabRowZ
import Derived.Test.YtbjcigkakeffmabSlicesEq
import Derived.Test.YtbjcigkakeffmabSlicesEqM
import Derived.Test.YtbjcigkakeffmabRowL
import Derived.Test.YtbjcigkakeffmabRowM
import Derived.Test.YtbjcigkakeffmabMakeI
import Derived.Test.YtbjcigkakeffmabBlocks
import Derived.Test.YtbjcigkakeffmabZoneMath
import Derived.Test.YtbjcigkakeffmabShelf
import Derived.WalkKit
import Derived.IntWalk
import Derived.Lib.Hide
import Derived.WalkSpells
import Derived.WalkLawsBesides
import Derived.Laws.CopyOwn
import Derived.Laws.MakeOwn
import Derived.Laws.OwnMore
import Derived.OwnWalk
import Derived.Deep.QuietTactic
import Derived.BigQuiet
import Derived.Deep.RegionHeld3
import Derived.Deep.LoopGhost
import Derived.BigRegion
import Derived.Deep.AppendLies
import Derived.Maps.AppendAt
import Derived.Below
import Derived.Test.YtbjcigkakeffmabZoneA
import Derived.Test.YtbjcigkakeffmabZoneB
namespace Go.Proofs.Ytbjcigkakeffmab
open Go.RowKit
set_option linter.unusedSimpArgs false
set_option linter.unusedVariables false
/-- the heaviest floor, the least -/
def mxZ (zs : List Int) (n : Nat) : Int := Lib.maxOf (zs.take n)
def rgB (zs : List Int) (k : Int) : Prop := 1 ≤ zs.length ∧ zs.length ≤ 128 ∧ 1 ≤ k ∧ ∀ i, i < zs.length → 0 ≤ zat zs i ∧ zat zs i ≤ 1048576
theorem cn_mono {l : Nat → Int} {M M' : Int} {n k : Nat} (hn : 0 < n) (hk : 0 < k) (h : ∀ i, i < n → 0 ≤ l i ∧ l i ≤ M) (hM : M ≤ M') (hc : cnZ l M n ≤ k) : cnZ l M' n ≤ k := by
  have h0 : 0 ≤ M := by have := h 0 hn; omega
  have hb := cn_best h h0 (k - 1) n (Nat.le_refl _) (by omega)
  have := best_cn (l := l) (M := M') (N := n) (fun i hi => by have := h i hi; omega) (k - 1) n (Nat.le_refl _) (by omega)
  omega
theorem sum_bd {l : Nat → Int} {H : Int} : ∀ n, (∀ i, i < n → l i ≤ H) → sumZ l n ≤ H * n
  | 0, _ => by simp [sumZ]
  | n + 1, h => by
    have ih := sum_bd n fun i hi => h i (by omega)
    have := h n (by omega)
    show sumZ l n + l n ≤ _
    have e : H * ((n + 1 : Nat) : Int) = H * n + H := by rw [Int.natCast_add, Int.mul_add]; simp
    rw [e]; omega
set_option maxRecDepth 100000 in
set_option maxHeartbeats 4000000 in
theorem zcl_any (A : Option Addr) (c n : Nat) (zs : List Int) (H k m : Int) (gl gh gk : Nat) (w : World) (hn : zs.length = n) (h0 : 0 < n) (h1 : n ≤ 128) (hr : RdI w .i64 A zs) (hz : ∀ i, i < n → 0 ≤ zat zs i ∧ zat zs i ≤ H) (hH : 0 ≤ H) (hH1 : H ≤ 1048576) (m0 : 0 ≤ m) (m1 : m ≤ 134217728)
    (hL : Blk w gl 22 #[.slice A n c]) (hHB : Blk w gh 3 #[.int .i64 H]) (hK : Blk w gk 3 #[.int .i64 k]) :
    Calls Try.prog 14 #[.int .i64 m, .pointer (some ⟨gl, 0, none⟩), .pointer (some ⟨gh, 0, none⟩), .pointer (some ⟨gk, 0, none⟩)] w fun e w' => e = .returned (.bool (decide ((cnZ (zat zs) (H + m) n : Int) ≤ k))) ∧ Below w.heap.size w w' := by
  have KC := Lib.hid (fun w hr => zcut_any A c n zs (H + m) w hn h0 h1 hr (fun i hi => by have := hz i hi; omega) (by omega) (by omega))
  have HL := Lib.hid hL; have HH := Lib.hid hHB; have HK := Lib.hid hK; have JR := Lib.hid hr
  have EE := Lib.hid (Below.refl w.heap.size w)
  have hw : IntKind.i64.wrap (H + m) = H + m := IntWalk.i64_in _ (by omega)
  obtain ⟨cn, hcn⟩ : ∃ q, cnZ (zat zs) (H + m) n = q := ⟨_, rfl⟩
  have HCN := Lib.hid hcn
  rw [hcn]
  clear hL hHB hK hr hz hn hcn
  go_enter Try.func14, Try.ntmps14
  have kL0 : w.cell? ⟨gl, 0, none⟩ = some (.slice A n c) := HL.out.cell 0
  have kH0 : w.cell? ⟨gh, 0, none⟩ = some (.int .i64 H) := HH.out.cell 0
  have kK0 : w.cell? ⟨gk, 0, none⟩ = some (.int .i64 k) := HK.out.cell 0
  go_wp2_with fail
  have sK : ∀ X, Blk X (gl) 22 #[.slice A n c] → Blk X (gh) 3 #[.int .i64 H] → Blk X (gk) 3 #[.int .i64 k] → (fun X => X.cell? ⟨gl, 0, none⟩ = some (.slice A n c) ∧ X.cell? ⟨gh, 0, none⟩ = some (.int .i64 H) ∧ X.cell? ⟨gk, 0, none⟩ = some (.int .i64 k)) X := fun X hL hH hK => ⟨hL.cell 0, hH.cell 0, hK.cell 0⟩
  have LL0 := Lib.hid (HL.out.drew)
  have LH0 := Lib.hid (HH.out.drew)
  have LK0 := Lib.hid (HK.out.drew)
  have E0 := Lib.hid (EE.out.drew)
  clear kL0 kH0 kK0
  refine wp_region_held_drew (S := (fun X => X.cell? ⟨gl, 0, none⟩ = some (.slice A n c) ∧ X.cell? ⟨gh, 0, none⟩ = some (.int .i64 H) ∧ X.cell? ⟨gk, 0, none⟩ = some (.int .i64 k))) (by kernel_rfl) (sK _ LL0.out LH0.out LK0.out) (fun hHeld => ?_)
  clear hHeld
  refine wpAnyH_take (i := 0) (v := ?_) rfl (by kernel_rfl) (by kernel_rfl) (by kernel_rfl) (fun _ _ _ h => h) (Or.inl ⟨by rfl, ?_⟩) (sK _ LL0.out LH0.out LK0.out) ?_
  rotate_left
  · (intro wS hSw; (try dsimp only at hSw); go_simp; try with_reducible rfl)
  simp only [Act.put, List.getElem_toArray, List.getElem_cons_zero, List.getElem_cons_succ, List.setIfInBounds_toArray, List.set_cons_zero, List.set_cons_succ]
  refine wpAnyH_take (i := 1) (v := ?_) rfl (by kernel_rfl) (by kernel_rfl) (by kernel_rfl) (fun _ _ _ h => h) (Or.inl ⟨by rfl, ?_⟩) (sK _ LL0.out LH0.out LK0.out) ?_
  rotate_left
  · (intro wS hSw; (try dsimp only at hSw); go_simp; try with_reducible rfl)
  simp only [Act.put, List.getElem_toArray, List.getElem_cons_zero, List.getElem_cons_succ, List.setIfInBounds_toArray, List.set_cons_zero, List.set_cons_succ]
  refine wpAnyH_take (i := 2) (v := ?_) rfl (by kernel_rfl) (by kernel_rfl) (by kernel_rfl) (fun _ _ _ h => h) (Or.inl ⟨by rfl, ?_⟩) (sK _ LL0.out LH0.out LK0.out) ?_
  rotate_left
  · (intro wS hSw; (try dsimp only at hSw); go_simp; try with_reducible rfl)
  simp only [Act.put, List.getElem_toArray, List.getElem_cons_zero, List.getElem_cons_succ, List.setIfInBounds_toArray, List.set_cons_zero, List.set_cons_succ]
  refine wpAnyH_take (i := 3) (v := ?_) rfl (by kernel_rfl) (by kernel_rfl) (by kernel_rfl) (fun _ _ _ h => h) (Or.inl ⟨by rfl, ?_⟩) (sK _ LL0.out LH0.out LK0.out) ?_
  rotate_left
  · (intro wS hSw; (try dsimp only at hSw); go_simp; try with_reducible rfl)
  simp only [Act.put, List.getElem_toArray, List.getElem_cons_zero, List.getElem_cons_succ, List.setIfInBounds_toArray, List.set_cons_zero, List.set_cons_succ]
  refine wpAnyH_take (i := 6) (v := ?_) rfl (by kernel_rfl) (by kernel_rfl) (by kernel_rfl) (fun _ _ _ h => h) (Or.inl ⟨by rfl, ?_⟩) (sK _ LL0.out LH0.out LK0.out) ?_
  rotate_left
  · (intro wS hSw; (try dsimp only at hSw); go_simp; try with_reducible rfl)
  simp only [Act.put, List.getElem_toArray, List.getElem_cons_zero, List.getElem_cons_succ, List.setIfInBounds_toArray, List.set_cons_zero, List.set_cons_succ]
  refine wpAnyH_ready (rs := [4]) (by kernel_rfl) (by simp) ?_
  refine AllReadyH.cons rfl (fun K hK => ?_) AllReadyH.nil
  go_simp
  refine (KC.out _ (JR.out.kept E0.out)).mono ?_
  rintro e r1 ⟨A', c', rfl, hc1, hc2, hRD, hb⟩
  have LL1 := Lib.hid (Blk.next (w := w.drew) LL0.out hb)
  have LH1 := Lib.hid (Blk.next (w := w.drew) LH0.out hb)
  have LK1 := Lib.hid (Blk.next (w := w.drew) LK0.out hb)
  have E1 := Lib.hid (E0.out.trans (hb.mono E0.out.size))
  rw [HCN.out] at hc1 hRD
  simp only [HCN.out]
  have hc3 : cn ≤ 9223372036854775807 := by unfold maxLen at hc2; omega
  clear hRD hc1 hc2
  clear hb
  go_wp2_with fail
  refine hK.out _ _ (sK _ LL1.out LH1.out LK1.out) (fun hHeld => ?_)
  clear hK K hHeld
  try simp only [Act.put, List.getElem_toArray, List.getElem_cons_zero, List.getElem_cons_succ, List.setIfInBounds_toArray, List.set_cons_zero, List.set_cons_succ]
  refine wpAnyH_take (i := 5) (v := ?_) rfl (by kernel_rfl) (by kernel_rfl) (by kernel_rfl) (fun _ _ _ h => h) (Or.inl ⟨by rfl, ?_⟩) (sK _ LL1.out LH1.out LK1.out) ?_
  rotate_left
  · (intro wS hSw; (try dsimp only at hSw); go_simp; try with_reducible rfl)
  simp only [Act.put, List.getElem_toArray, List.getElem_cons_zero, List.getElem_cons_succ, List.setIfInBounds_toArray, List.set_cons_zero, List.set_cons_succ]
  refine wpAnyH_take (i := 7) (v := ?_) rfl (by kernel_rfl) (by kernel_rfl) (by kernel_rfl) (fun _ _ _ h => h) (Or.inl ⟨by rfl, ?_⟩) (sK _ LL1.out LH1.out LK1.out) ?_
  rotate_left
  · (intro wS hSw; (try dsimp only at hSw); go_simp; try with_reducible rfl)
  simp only [Act.put, List.getElem_toArray, List.getElem_cons_zero, List.getElem_cons_succ, List.setIfInBounds_toArray, List.set_cons_zero, List.set_cons_succ]
  refine wpAnyH_take (i := 8) (v := ?_) rfl (by kernel_rfl) (by kernel_rfl) (by kernel_rfl) (fun _ _ _ h => h) (Or.inl ⟨by rfl, ?_⟩) (sK _ LL1.out LH1.out LK1.out) ?_
  rotate_left
  · (intro wS hSw; (try dsimp only at hSw); go_simp; try with_reducible rfl)
  simp only [Act.put, List.getElem_toArray, List.getElem_cons_zero, List.getElem_cons_succ, List.setIfInBounds_toArray, List.set_cons_zero, List.set_cons_succ]
  refine wpAnyH_done (by kernel_rfl) ?_ _
  go_wp2_with fail
  try go_ret
  exact ⟨rfl, E1.out⟩
def SrR (P : Int → Prop) (N : Int) (w : World) (e : Ending) (w' : World) : Prop := ∃ r : Int, e = .returned (.int .i64 r) ∧ 0 ≤ r ∧ r ≤ N ∧ (∀ m, 0 ≤ m → m < r → ¬ P m) ∧ (r < N → P r) ∧ Below w.heap.size w w'
set_option maxRecDepth 100000 in
set_option maxHeartbeats 4000000 in
theorem zsearch_any (A : Option Addr) (c n : Nat) (zs : List Int) (H k N : Int) (gl gh gk : Nat) (w : World) (hn : zs.length = n) (h0 : 0 < n) (h1 : n ≤ 128) (hr : RdI w .i64 A zs) (hz : ∀ i, i < n → 0 ≤ zat zs i ∧ zat zs i ≤ H) (hH : 0 ≤ H) (hH1 : H ≤ 1048576) (N0 : 0 ≤ N) (N1 : N ≤ 134217728) (hk : 1 ≤ k)
    (hL : Blk w gl 22 #[.slice A n c]) (hHB : Blk w gh 3 #[.int .i64 H]) (hK : Blk w gk 3 #[.int .i64 k]) :
    Calls Try.prog 13 #[.int .i64 N, .func (.func 14) #[] #[.pointer (some ⟨gl, 0, none⟩), .pointer (some ⟨gh, 0, none⟩), .pointer (some ⟨gk, 0, none⟩)]] w (SrR (fun m => (cnZ (zat zs) (H + m) n : Int) ≤ k) N w) := by
  obtain ⟨P, hP⟩ : ∃ P : Int → Prop, (fun m => (cnZ (zat zs) (H + m) n : Int) ≤ k) = P := ⟨_, rfl⟩
  have PM : ∀ a b, 0 ≤ a → a ≤ b → P a → P b := fun a b ha hab h => by
    rw [← hP] at h ⊢
    have := cn_mono (l := zat zs) (M := H + a) (M' := H + b) (k := k.toNat) h0 (by omega) (fun i hi => by have := hz i hi; omega) (by omega) (by have h' : ((cnZ (zat zs) (H + a) n : Nat) : Int) ≤ k := h; omega)
    show (_ : Int) ≤ k
    omega
  have KC := fun m w m0 m1 hr hL hH' hK => zcl_any A c n zs H k m gl gh gk w hn h0 h1 hr hz hH hH1 m0 m1 hL hH' hK
  have KD : ∀ m, decide ((cnZ (zat zs) (H + m) n : Int) ≤ k) = true ↔ P m := fun m => by rw [← hP]; simp
  obtain ⟨B, hB⟩ : ∃ B : Int → Bool, (fun m => decide ((cnZ (zat zs) (H + m) n : Int) ≤ k)) = B := ⟨_, rfl⟩
  have KB : ∀ m, decide ((cnZ (zat zs) (H + m) n : Int) ≤ k) = B m := fun m => by rw [← hB]
  simp only [KB] at KC KD
  rw [hP]
  have JC := Lib.hid KC; have JD := Lib.hid KD; have JM := Lib.hid PM; have JR := Lib.hid hr
  have HL := Lib.hid hL; have HH := Lib.hid hHB; have HK := Lib.hid hK
  clear hP hB KB KC KD PM hr hz hL hHB hK hn
  go_enter Try.func13, Try.ntmps13
  go_wp2_with fail
  go_loopw [5, 6] (fun i j wr => ∃ a b : Int, i = .int .i64 a ∧ j = .int .i64 b ∧ 0 ≤ a ∧ a ≤ b ∧ b ≤ N ∧ Hid (∀ m, 0 ≤ m → m < a → ¬ P m) ∧ Hid (b < N → P b) ∧ Below w.heap.size w wr) (fun i j _ => (intOf j - intOf i).toNat)
  case atStart => exact ⟨0, N, rfl, rfl, by omega, by omega, by omega, Lib.hid fun m h1 h2 => by omega, Lib.hid fun h => absurd h (by omega), Below.refl _ _⟩
  case round =>
    obtain ⟨a, b, rfl, rfl, a0, ab, bN, hlo, hhi, hb⟩ := hrel
    have EE := Lib.hid hb
    clear hb
    by_cases h : a < b
    · obtain ⟨m, hm⟩ : ∃ m, (a + b) / 2 = m := ⟨_, rfl⟩
      have m0 : a ≤ m := by omega
      have m1 : m < b := by omega
      have hw : IntKind.i64.wrap (a + b) = a + b := IntWalk.i64_in _ (by omega)
      have hw2 : IntKind.u64.wrap (a + b) = a + b := by unfold IntKind.wrap; simp [IntKind.signed, IntKind.bits]; omega
      have hw3 : IntKind.i64.wrap m = m := IntWalk.i64_in _ (by omega)
      have hw4 : IntKind.u64.wrap m = m := by unfold IntKind.wrap; simp [IntKind.signed, IntKind.bits]; omega
      have hw5 : IntKind.i64.wrap ((a + b) / 2) = m := by rw [hm]; exact hw3
      have hw6 : IntKind.i64.wrap (m + 1) = m + 1 := IntWalk.i64_in _ (by omega)
      go_wp2_with fail
      refine (JC.out m _ (by omega) (by omega) (JR.out.kept EE.out) (HL.out.next EE.out) (HH.out.next EE.out) (HK.out.next EE.out)).mono ?_
      rintro e w1 ⟨rfl, hb⟩
      have E1 := Lib.hid (EE.out.trans (hb.mono EE.out.size))
      have PB := JD.out m
      obtain ⟨bv, hbv⟩ : ∃ v, B m = v := ⟨_, rfl⟩
      rw [hbv] at PB ⊢
      clear hb hbv hw hw2 hw3 hw4 hw5 hm
      cases bv
      · have LO : Hid (∀ q, 0 ≤ q → q < m + 1 → ¬ P q) := Lib.hid fun q q0 q1 hq => by
          have := JM.out q m q0 (by omega) hq
          have := PB.2 this
          cases this
        clear PB
        go_wp2_with fail
        go_roundw
        case rel => exact ⟨m + 1, b, rfl, rfl, by omega, by omega, bN, LO, hhi, E1.out⟩
        case measure => simp [intOf]; omega
      · have HI2 : Hid (m < N → P m) := Lib.hid fun _ => PB.1 rfl
        clear PB
        go_wp2_with fail
        go_roundw
        case rel => exact ⟨a, m, rfl, rfl, a0, m0, by omega, hlo, HI2, E1.out⟩
        case measure => simp [intOf]; omega
    · obtain rfl : a = b := by omega
      have h' : ¬ a < a := by omega
      have HF : Hid (∀ e, e = Ending.returned (.int .i64 a) → SrR P N w e wr) := Lib.hid fun e he => ⟨a, he, a0, bN, hlo.out, hhi.out, EE.out⟩
      go_wp2_with fail
      go_ret
      exact HF.out _ rfl
theorem max_of (zs : List Int) : ∀ k, 0 < k → k ≤ zs.length → (∀ i, i < k → zat zs i ≤ Lib.maxOf (zs.take k)) ∧ ∃ i, i < k ∧ zat zs i = Lib.maxOf (zs.take k)
  | 0, h, _ => absurd h (by omega)
  | 1, _, h => by
    rw [Lib.maxOf_one]
    exact ⟨fun i hi => by obtain rfl : i = 0 := by omega
                          exact Int.le_refl _, 0, by omega, rfl⟩
  | k + 2, _, h => by
    obtain ⟨h1, i, hi, he⟩ := max_of zs (k + 1) (by omega) (by omega)
    rw [Lib.maxOf_step zs (k + 1) (by omega) (by omega)]
    have ez : zs.getD (k + 1) 0 = zat zs (k + 1) := rfl
    rw [ez]
    refine ⟨fun j hj => ?_, ?_⟩
    · by_cases e : j = k + 1
      · rw [e]; omega
      · have := h1 j (by omega); omega
    · by_cases c : zat zs (k + 1) ≤ Lib.maxOf (zs.take (k + 1))
      · exact ⟨i, by omega, by omega⟩
      · exact ⟨k + 1, by omega, by omega⟩
theorem min_of (zs : List Int) : ∀ k, 0 < k → k ≤ zs.length → (∀ i, i < k → Lib.minOf (zs.take k) ≤ zat zs i) ∧ ∃ i, i < k ∧ zat zs i = Lib.minOf (zs.take k)
  | 0, h, _ => absurd h (by omega)
  | 1, _, h => by
    rw [Lib.minOf_one]
    exact ⟨fun i hi => by obtain rfl : i = 0 := by omega
                          exact Int.le_refl _, 0, by omega, rfl⟩
  | k + 2, _, h => by
    obtain ⟨h1, i, hi, he⟩ := min_of zs (k + 1) (by omega) (by omega)
    rw [Lib.minOf_step zs (k + 1) (by omega) (by omega)]
    have ez : zs.getD (k + 1) 0 = zat zs (k + 1) := rfl
    rw [ez]
    refine ⟨fun j hj => ?_, ?_⟩
    · by_cases e : j = k + 1
      · rw [e]; omega
      · have := h1 j (by omega); omega
    · by_cases c : Lib.minOf (zs.take (k + 1)) ≤ zat zs (k + 1)
      · exact ⟨i, by omega, by omega⟩
      · exact ⟨k + 1, by omega, by omega⟩
/-- may such weights be, and so many zones? -/
def RgZ (zs : List Int) (n : Nat) (k : Int) : Prop := 1 ≤ n ∧ n ≤ 128 ∧ 1 ≤ k ∧ ∀ i, i < n → 0 ≤ zat zs i ∧ zat zs i ≤ 1048576
theorem zmax_any (A : Option Addr) (c n : Nat) (zs : List Int) (w : World) (hn : zs.length = n) (h0 : 0 < n) (h1 : n ≤ 128) (hr : RdI w .i64 A zs) :
    Calls Try.prog 12 #[.slice A n c] w fun e w' => e = .returned (.int .i64 (Lib.maxOf (zs.take n))) ∧ w = w' := by
  obtain ⟨b, off, rfl, _, hc⟩ := rdI_row hr (by omega)
  refine (Try.slices_Max_int b off n c zs w h0 (by omega) (by omega) (fun j hj => hc j hj)).mono fun e w' h => ⟨h.1, h.2.symm⟩
theorem zmin_any (A : Option Addr) (c n : Nat) (zs : List Int) (w : World) (hn : zs.length = n) (h0 : 0 < n) (h1 : n ≤ 128) (hr : RdI w .i64 A zs) :
    Calls Try.prog 20 #[.slice A n c] w fun e w' => e = .returned (.int .i64 (Lib.minOf (zs.take n))) ∧ w = w' := by
  obtain ⟨b, off, rfl, _, hc⟩ := rdI_row hr (by omega)
  refine (Try.slices_Min_int b off n c zs w h0 (by omega) (by omega) (fun j hj => hc j hj)).mono fun e w' h => ⟨h.1, h.2.symm⟩
def RtR (Q : Prop) (w : World) (e : Ending) (w' : World) : Prop := ∃ b, e = .returned (.bool b) ∧ (b = true ↔ Q) ∧ w = w'
set_option maxRecDepth 100000 in
set_option maxHeartbeats 4000000 in
theorem zright_any (A : Option Addr) (c n : Nat) (zs : List Int) (k : Int) (w : World) (hn : zs.length = n) (hl : n ≤ 9223372036854775807) (hr : RdI w .i64 A zs) :
    Calls Try.prog 11 #[.slice A n c, .int .i64 k] w (RtR (RgZ zs n k) w) := by
  have NO : (¬ RgZ zs n k) → Hid (∀ e, e = Ending.returned (.bool false) → RtR (RgZ zs n k) w e w) := fun h => Lib.hid fun e he => ⟨false, he, ⟨(fun h' => by cases h'), fun h' => absurd h' h⟩, rfl⟩
  have YES : RgZ zs n k → Hid (∀ e, e = Ending.returned (.bool true) → RtR (RgZ zs n k) w e w) := fun h => Lib.hid fun e he => ⟨true, he, ⟨fun _ => h, fun _ => rfl⟩, rfl⟩
  have D : n = 0 ∨ (0 < n ∧ 128 < n) ∨ (0 < n ∧ n ≤ 128 ∧ k < 1) ∨ (0 < n ∧ n ≤ 128 ∧ 1 ≤ k) := by omega
  rcases D with h | ⟨h, h1⟩ | ⟨h, h1, h2⟩ | ⟨h, h1, h2⟩
  · have F := NO (fun q => by have := q.1; omega)
    clear NO YES hr
    subst h
    go_enter Try.func11, Try.ntmps11
    go_wp2_with fail
    go_ret
    exact F.out _ rfl
  · have F := NO (fun q => by have := q.2.1; omega)
    have d0 : decide (1 ≤ (n : Int)) = true := decide_eq_true (by omega)
    have d1 : decide ((n : Int) ≤ 128) = false := decide_eq_false (by omega)
    have i0 : 1 ≤ (n : Int) := by omega
    have i1 : 128 < (n : Int) := by omega
    clear NO YES hr
    go_enter Try.func11, Try.ntmps11
    go_wp2_with fail
    go_ret
    exact F.out _ rfl
  · have F := NO (fun q => by have := q.2.2.1; omega)
    have d0 : decide (1 ≤ (n : Int)) = true := decide_eq_true (by omega)
    have d1 : decide ((n : Int) ≤ 128) = true := decide_eq_true (by omega)
    have d2 : decide (1 ≤ k) = false := decide_eq_false (by omega)
    have i0 : 1 ≤ (n : Int) := by omega
    have i1 : (n : Int) ≤ 128 := by omega
    clear NO YES hr
    go_enter Try.func11, Try.ntmps11
    go_wp2_with fail
    go_ret
    exact F.out _ rfl
  · obtain ⟨mn1, i, hi, mn2⟩ := min_of zs n h (by omega)
    obtain ⟨mx1, j, hj, mx2⟩ := max_of zs n h (by omega)
    have JN := Lib.hid (zmin_any A c n zs w hn h h1 hr)
    have JX := Lib.hid (zmax_any A c n zs w hn h h1 hr)
    have d0 : decide (1 ≤ (n : Int)) = true := decide_eq_true (by omega)
    have d1 : decide ((n : Int) ≤ 128) = true := decide_eq_true (by omega)
    have d2 : decide (1 ≤ k) = true := decide_eq_true h2
    have i0 : 1 ≤ (n : Int) := by omega
    have i1 : (n : Int) ≤ 128 := by omega
    obtain ⟨mn, hmn⟩ : ∃ z, Lib.minOf (zs.take n) = z := ⟨_, rfl⟩
    obtain ⟨mx, hmx⟩ : ∃ z, Lib.maxOf (zs.take n) = z := ⟨_, rfl⟩
    rw [hmn] at JN mn1 mn2
    rw [hmx] at JX mx1 mx2
    by_cases c0 : mn < 0
    · have F := NO (fun q => by have := (q.2.2.2 i hi).1; omega)
      have d3 : decide (0 ≤ mn) = false := decide_eq_false (by omega)
      clear NO YES hr mn1 mn2 mx1 mx2 hmn hmx
      go_enter Try.func11, Try.ntmps11
      go_wp2_with fail
      refine JN.out.mono ?_
      rintro e w1 ⟨rfl, rfl⟩
      go_wp2_with fail
      go_ret
      exact F.out _ rfl
    · have d3 : decide (0 ≤ mn) = true := decide_eq_true (by omega)
      have c1 : 0 ≤ mn := by omega
      by_cases c2 : mx ≤ 1048576
      · have F := YES ⟨by omega, h1, h2, fun q hq => by have := mn1 q hq; have := mx1 q hq; omega⟩
        have d4 : decide (mx ≤ 1048576) = true := decide_eq_true c2
        clear NO YES hr mn1 mn2 mx1 mx2 hmn hmx
        go_enter Try.func11, Try.ntmps11
        go_wp2_with fail
        refine JN.out.mono ?_
        rintro e w1 ⟨rfl, rfl⟩
        go_wp2_with fail
        refine JX.out.mono ?_
        rintro e w1 ⟨rfl, rfl⟩
        go_wp2_with fail
        go_ret
        exact F.out _ rfl
      · have F := NO (fun q => by have := (q.2.2.2 j hj).2; omega)
        have d4 : decide (mx ≤ 1048576) = false := decide_eq_false c2
        clear NO YES hr mn1 mn2 mx1 mx2 hmn hmx
        go_enter Try.func11, Try.ntmps11
        go_wp2_with fail
        refine JN.out.mono ?_
        rintro e w1 ⟨rfl, rfl⟩
        go_wp2_with fail
        refine JX.out.mono ?_
        rintro e w1 ⟨rfl, rfl⟩
        go_wp2_with fail
        go_ret
        exact F.out _ rfl
/-- how much the heaviest zone weighs at least -/
def lsZ (zs : List Int) (n : Nat) (k : Int) : Int := bestZ (zat zs) (min k.toNat n - 1) n
theorem ls_eq {zs : List Int} {n : Nat} {k H r : Int} (hn : 0 < n) (h1 : n ≤ 128) (hk : 1 ≤ k) (hz : ∀ i, i < n → 0 ≤ zat zs i ∧ zat zs i ≤ H) (hi : ∃ i, i < n ∧ zat zs i = H) (r0 : 0 ≤ r)
    (hlo : ∀ m, 0 ≤ m → m < r → ¬ (cnZ (zat zs) (H + m) n : Int) ≤ k) (hhi : r < 1048576 * n → (cnZ (zat zs) (H + r) n : Int) ≤ k) (hb : r ≤ 1048576 * n) (hH1 : H ≤ 1048576) : H + r = lsZ zs n k := by
  obtain ⟨i, hi, he⟩ := hi
  have h0 : 0 ≤ H := by have := hz i hi; omega
  have hc : (cnZ (zat zs) (H + r) n : Int) ≤ k := by
    by_cases c : r < 1048576 * n
    · exact hhi c
    · have hs := sum_bd (l := zat zs) (H := 1048576) n (fun i hi => by have := hz i hi; omega)
      have := best_cn (l := zat zs) (M := H + r) (N := n) (fun i hi => by have := hz i hi; omega) 0 n (Nat.le_refl _) (by show sumZ (zat zs) n ≤ _; omega)
      omega
  refine (least_eq (l := zat zs) (n := n) (k := k.toNat) (P := H + r) (H := H) hn (by omega) (fun i hi => (hz i hi).1) (fun i hi => (hz i hi).2) ⟨i, hi, he⟩ (by omega) (by omega) (fun M h1 h2 h3 => ?_)).symm
  have := hlo (M - H) (by omega) (by omega)
  rw [show H + (M - H) = M by omega] at this
  omega
theorem rd_kept {w w' : World} {k : IntKind} {A : Option Addr} {zs : List Int} (h : RdI w k A zs) (hb : Below w.heap.size w w') : RdI w' k A zs := h.kept hb
set_option maxRecDepth 100000 in
set_option maxHeartbeats 4000000 in
theorem zleast_ok (A : Option Addr) (c n : Nat) (zs : List Int) (k : Int) (w : World) (hn : zs.length = n) (hl : n ≤ 9223372036854775807) (hr : RdI w .i64 A zs) (hq : RgZ zs n k) :
    Calls Try.prog 6 #[.slice A n c, .int .i64 k] w fun e w' => e = .returned (.tuple #[.int .i64 (lsZ zs n k), .int .i64 0]) ∧ Below w.heap.size w w' := by
  obtain ⟨h0, h1, hk, hz⟩ := hq
  obtain ⟨mx1, j, hj, mx2⟩ := max_of zs n (by omega) (by omega)
  have JR := Lib.hid (fun w hr => zright_any A c n zs k w hn hl hr)
  have JX := Lib.hid (fun w hr => zmax_any A c n zs w hn (by omega) h1 hr)
  have HQ : Hid (RgZ zs n k) := Lib.hid ⟨h0, h1, hk, hz⟩
  obtain ⟨H, hH⟩ : ∃ z, Lib.maxOf (zs.take n) = z := ⟨_, rfl⟩
  rw [hH] at JX mx1 mx2
  have hzH : ∀ i, i < n → 0 ≤ zat zs i ∧ zat zs i ≤ H := fun i hi => ⟨(hz i hi).1, mx1 i hi⟩
  have H0 : 0 ≤ H := by have := hzH j hj; omega
  have H1 : H ≤ 1048576 := by have := hz j hj; omega
  have hw : IntKind.i64.wrap (1048576 * (n : Int)) = 1048576 * n := IntWalk.i64_in _ (by omega)
  have JS := Lib.hid (fun gl gh gk w hr hL hH' hK => zsearch_any A c n zs H k (1048576 * n) gl gh gk w hn (by omega) h1 hr hzH H0 H1 (by omega) (by omega) hk hL hH' hK)
  have LE : Hid (∀ r : Int, 0 ≤ r → r ≤ 1048576 * n → (∀ m : Int, 0 ≤ m → m < r → ¬ (cnZ (zat zs) (H + m) n : Int) ≤ k) → (r < 1048576 * n → (cnZ (zat zs) (H + r) n : Int) ≤ k) → H + r = lsZ zs n k) := Lib.hid fun r r0 r1 hlo hhi => ls_eq (by omega) h1 hk hzH ⟨j, hj, mx2⟩ r0 hlo hhi r1 H1
  have RR := Lib.hid hr
  have nI : (n : Int) ≤ 128 := by omega
  clear hr hz hzH mx1 mx2 hH hn hj
  go_enter Try.func6, Try.ntmps6
  go_wp2_with fail
  have BL := (Blk.new w #[.slice A n c] 22).alloc (.cells #[.int .i64 k] 3)
  have BK := Blk.new (w.alloc (.cells #[.slice A n c] 22)) #[.int .i64 k] 3
  rw [World.size_alloc] at BK
  have BE : Below w.heap.size w ((w.alloc (.cells #[.slice A n c] 22)).alloc (.cells #[.int .i64 k] 3)) := ((Below.refl w.heap.size w).alloc (Nat.le_refl _) _).alloc (by simp <;> omega) _
  obtain ⟨V0, hV0⟩ : ∃ V, ((w.alloc (.cells #[.slice A n c] 22)).alloc (.cells #[.int .i64 k] 3)) = V := ⟨_, rfl⟩
  rw [hV0] at BL BK BE ⊢
  have HL := Lib.hid BL
  have HK := Lib.hid BK
  have EE := Lib.hid BE
  have ne0_1 : w.heap.size ≠ w.heap.size + 1 := by omega
  have ne1_0 : w.heap.size + 1 ≠ w.heap.size := by omega
  clear hV0 BE BL BK
  have kL0 : V0.cell? ⟨w.heap.size, 0, none⟩ = some (.slice A n c) := HL.out.cell 0
  have kK0 : V0.cell? ⟨w.heap.size + 1, 0, none⟩ = some (.int .i64 k) := HK.out.cell 0
  go_wp2_with fail
  refine (JR.out _ (RR.out.kept EE.out)).mono ?_
  rintro e v1 ⟨b, rfl, hbq, rfl⟩
  obtain rfl : b = true := hbq.2 HQ.out
  clear hbq
  go_wp2_with fail
  refine (JX.out _ (RR.out.kept EE.out)).mono ?_
  rintro e v1 ⟨rfl, rfl⟩
  have lL := HL.out.lt
  have lK := HK.out.lt
  go_wp2_with fail
  clear kL0 kK0 lL lK
  have GL : Blk (V0.alloc (.cells #[.int .i64 H] 3)) (w.heap.size) 22 #[.slice A n c] := HL.out.alloc (.cells #[.int .i64 H] 3)
  have GK : Blk (V0.alloc (.cells #[.int .i64 H] 3)) (w.heap.size + 1) 3 #[.int .i64 k] := HK.out.alloc (.cells #[.int .i64 H] 3)
  have GH : Blk (V0.alloc (.cells #[.int .i64 H] 3)) (V0.heap.size) 3 #[.int .i64 H] := Blk.new V0 _ _
  have GE : Below w.heap.size w (V0.alloc (.cells #[.int .i64 H] 3)) := EE.out.alloc EE.out.size (.cells #[.int .i64 H] 3)
  obtain ⟨gh, hgh⟩ : ∃ g, V0.heap.size = g := ⟨_, rfl⟩
  have ne2_0 : gh ≠ w.heap.size := by have := HL.out.lt; omega
  have ne0_2 : w.heap.size ≠ gh := by have := HL.out.lt; omega
  have ne2_1 : gh ≠ w.heap.size + 1 := by have := HK.out.lt; omega
  have ne1_2 : w.heap.size + 1 ≠ gh := by have := HK.out.lt; omega
  have gegh : w.heap.size ≤ gh := by have := EE.out.size; omega
  rw [hgh] at GH ⊢
  clear hgh
  obtain ⟨v1, hv1⟩ : ∃ V, (V0.alloc (.cells #[.int .i64 H] 3)) = V := ⟨_, rfl⟩
  rw [hv1] at GL GK GH GE ⊢
  have HL := Lib.hid GL
  have HK := Lib.hid GK
  have HH := Lib.hid GH
  have EE := Lib.hid GE
  clear hv1 GL GK GH GE
  have kL0 : v1.cell? ⟨w.heap.size, 0, none⟩ = some (.slice A n c) := HL.out.cell 0
  have kK0 : v1.cell? ⟨w.heap.size + 1, 0, none⟩ = some (.int .i64 k) := HK.out.cell 0
  have kH0 : v1.cell? ⟨gh, 0, none⟩ = some (.int .i64 H) := HH.out.cell 0
  refine (JS.out _ _ _ _ (RR.out.kept EE.out) HL.out HH.out HK.out).mono ?_
  rintro e v2 ⟨r, rfl, r0, r1, hlo, hhi, hb⟩
  have E := Lib.hid (LE.out r r0 r1 (fun m a b => by have h : ¬ ((cnZ (zat zs) (H + m) n : Nat) : Int) ≤ k := hlo m a b; omega) (fun a => by have h : ((cnZ (zat zs) (H + r) n : Nat) : Int) ≤ k := hhi a; omega))
  clear hlo hhi
  clear kL0 kK0 kH0
  have HL := Lib.hid (Blk.next (w := v1) HL.out hb)
  have HK := Lib.hid (Blk.next (w := v1) HK.out hb)
  have HH := Lib.hid (Blk.next (w := v1) HH.out hb)
  have EE := Lib.hid (EE.out.trans (hb.mono EE.out.size))
  clear hb
  have kL0 : v2.cell? ⟨w.heap.size, 0, none⟩ = some (.slice A n c) := HL.out.cell 0
  have kK0 : v2.cell? ⟨w.heap.size + 1, 0, none⟩ = some (.int .i64 k) := HK.out.cell 0
  have kH0 : v2.cell? ⟨gh, 0, none⟩ = some (.int .i64 H) := HH.out.cell 0
  have hwr : IntKind.i64.wrap (H + r) = H + r := IntWalk.i64_in _ (by omega)
  go_wp2_with fail
  exact bodyPost_ret (v := .tuple #[.int .i64 (H + r), .int .i64 0]) (by simp [results, Try.results6, go_sem]) rfl ⟨by rw [E.out], EE.out⟩
set_option maxRecDepth 100000 in
set_option maxHeartbeats 4000000 in
theorem zleast_bad (A : Option Addr) (c n : Nat) (zs : List Int) (k : Int) (w : World) (hn : zs.length = n) (hl : n ≤ 9223372036854775807) (hr : RdI w .i64 A zs) (hq : ¬ RgZ zs n k) :
    Calls Try.prog 6 #[.slice A n c, .int .i64 k] w fun e w' => e = .returned (.tuple #[.int .i64 0, .int .i64 22]) ∧ Below w.heap.size w w' := by
  have JR := Lib.hid (fun w hr => zright_any A c n zs k w hn hl hr)
  have HQ : Hid (¬ RgZ zs n k) := Lib.hid hq
  have RR := Lib.hid hr
  clear hr hn hq
  go_enter Try.func6, Try.ntmps6
  go_wp2_with fail
  have BL := (Blk.new w #[.slice A n c] 22).alloc (.cells #[.int .i64 k] 3)
  have BK := Blk.new (w.alloc (.cells #[.slice A n c] 22)) #[.int .i64 k] 3
  rw [World.size_alloc] at BK
  have BE : Below w.heap.size w ((w.alloc (.cells #[.slice A n c] 22)).alloc (.cells #[.int .i64 k] 3)) := ((Below.refl w.heap.size w).alloc (Nat.le_refl _) _).alloc (by simp <;> omega) _
  obtain ⟨V0, hV0⟩ : ∃ V, ((w.alloc (.cells #[.slice A n c] 22)).alloc (.cells #[.int .i64 k] 3)) = V := ⟨_, rfl⟩
  rw [hV0] at BL BK BE ⊢
  have HL := Lib.hid BL
  have HK := Lib.hid BK
  have EE := Lib.hid BE
  have ne0_1 : w.heap.size ≠ w.heap.size + 1 := by omega
  have ne1_0 : w.heap.size + 1 ≠ w.heap.size := by omega
  clear hV0 BE BL BK
  have kL0 : V0.cell? ⟨w.heap.size, 0, none⟩ = some (.slice A n c) := HL.out.cell 0
  have kK0 : V0.cell? ⟨w.heap.size + 1, 0, none⟩ = some (.int .i64 k) := HK.out.cell 0
  go_wp2_with fail
  refine (JR.out _ (RR.out.kept EE.out)).mono ?_
  rintro e v1 ⟨b, rfl, hbq, rfl⟩
  obtain rfl : b = false := by
    cases b
    · rfl
    · exact absurd (hbq.1 rfl) HQ.out
  clear hbq
  go_wp2_with fail
  exact bodyPost_ret (v := .tuple #[.int .i64 0, .int .i64 22]) (by simp [results, Try.results6, go_sem]) rfl ⟨rfl, EE.out⟩
theorem bad_none {zs : List Int} {n : Nat} {k : Int} (h : RgZ zs n k) : (0 < n ∧ n ≤ 128) ∧ 1 ≤ k := ⟨⟨by have := h.1; omega, h.2.1⟩, h.2.2.1⟩
theorem ls_bd {zs : List Int} {n : Nat} {k : Int} (h : RgZ zs n k) : (∀ i, i < n → 0 ≤ zat zs i ∧ zat zs i ≤ lsZ zs n k) ∧ 0 ≤ lsZ zs n k ∧ lsZ zs n k ≤ 134217728 := by
  obtain ⟨h0, h1, hk, hz⟩ := h
  have hm := best_max (l := zat zs) (M := lsZ zs n k) (N := n) (fun i hi => (hz i hi).1) (min k.toNat n - 1) n (Nat.le_refl _) (Int.le_refl _)
  have hs := sum_bd (l := zat zs) (H := 1048576) n (fun i hi => (hz i hi).2)
  have hle : ∀ z, bestZ (zat zs) z n ≤ sumZ (zat zs) n := fun z => by
    induction z with
    | zero => exact Int.le_refl _
    | succ z ih => exact (nx_le n (Nat.le_refl n)).2 (.inl ih)
  have := hle (min k.toNat n - 1)
  have h2 : lsZ zs n k ≤ sumZ (zat zs) n := this
  refine ⟨fun i hi => ⟨(hz i hi).1, hm i hi⟩, ?_, by omega⟩
  have := hz 0 (by omega); have := hm 0 (by omega); omega
def CtR (zs : List Int) (n : Nat) (k : Int) (w : World) (e : Ending) (w' : World) : Prop := ∃ A' c', e = .returned (.tuple #[.slice A' (cnZ (zat zs) (lsZ zs n k) n) c', .int .i64 0]) ∧ cnZ (zat zs) (lsZ zs n k) n ≤ c' ∧ c' ≤ maxLen ∧ RdZ w' 2 A' (cnZ (zat zs) (lsZ zs n k) n) (zL (cutL (zat zs) (lsZ zs n k) n)) ∧ Below w.heap.size w w'
set_option maxHeartbeats 4000000 in
theorem zct_ok (A : Option Addr) (c n : Nat) (zs : List Int) (k : Int) (w : World) (hn : zs.length = n) (hl : n ≤ 9223372036854775807) (hr : RdI w .i64 A zs) (hq : RgZ zs n k) :
    Calls Try.prog 7 #[.slice A n c, .int .i64 k] w (CtR zs n k w) := by
  obtain ⟨hz, b0, b1⟩ := ls_bd hq
  have JL := Lib.hid (zleast_ok A c n zs k w hn hl hr hq)
  have JC := Lib.hid (fun w hr => zcut_any A c n zs (lsZ zs n k) w hn (by have := hq.1; omega) hq.2.1 hr hz b0 (by omega))
  have RR := Lib.hid hr
  have FIN : Hid (∀ e A' c' w', e = Ending.returned (.tuple #[.slice A' (cnZ (zat zs) (lsZ zs n k) n) c', .int .i64 0]) → cnZ (zat zs) (lsZ zs n k) n ≤ c' → c' ≤ maxLen → RdZ w' 2 A' (cnZ (zat zs) (lsZ zs n k) n) (zL (cutL (zat zs) (lsZ zs n k) n)) → Below w.heap.size w w' → CtR zs n k w e w') := Lib.hid fun e A' c' w' h1 h2 h3 h4 h5 => ⟨A', c', h1, h2, h3, h4, h5⟩
  obtain ⟨cn, hcn⟩ : ∃ q, cnZ (zat zs) (lsZ zs n k) n = q := ⟨_, rfl⟩
  unfold CutR at JC
  simp only [hcn] at JC FIN
  obtain ⟨M, hM⟩ : ∃ q, lsZ zs n k = q := ⟨_, rfl⟩
  simp only [hM] at JC JL FIN
  clear hr hn hq hz hcn hM b0 b1
  go_enter Try.func7, Try.ntmps7
  go_wp2_with fail
  refine JL.out.mono ?_
  rintro e w1 ⟨rfl, hb⟩
  have E1 := Lib.hid hb
  clear hb
  go_wp2_with fail
  refine (JC.out _ (RR.out.kept E1.out)).mono ?_
  rintro e w2 ⟨A', c', rfl, h1, h2, h3, hb⟩
  have HF := Lib.hid (fun e he => FIN.out e A' c' w2 he h1 h2 h3 (E1.out.trans (hb.mono E1.out.size)))
  clear h1 h2 h3 hb
  go_wp2_with fail
  exact bodyPost_ret (v := .tuple #[.slice A' cn c', .int .i64 0]) (by simp [results, Try.results7, go_sem]) rfl (HF.out _ rfl)
set_option maxHeartbeats 4000000 in
theorem zct_bad (A : Option Addr) (c n : Nat) (zs : List Int) (k : Int) (w : World) (hn : zs.length = n) (hl : n ≤ 9223372036854775807) (hr : RdI w .i64 A zs) (hq : ¬ RgZ zs n k) :
    Calls Try.prog 7 #[.slice A n c, .int .i64 k] w fun e w' => e = .returned (.tuple #[.slice none 0 0, .int .i64 22]) ∧ Below w.heap.size w w' := by
  have JL := Lib.hid (zleast_bad A c n zs k w hn hl hr hq)
  clear hr hn hq
  go_enter Try.func7, Try.ntmps7
  go_wp2_with fail
  refine JL.out.mono ?_
  rintro e w1 ⟨rfl, hb⟩
  have E1 := Lib.hid hb
  clear hb
  go_wp2_with fail
  exact bodyPost_ret (v := .tuple #[.slice none 0 0, .int .i64 22]) (by simp [results, Try.results7, go_sem]) rfl ⟨rfl, E1.out⟩
end Go.Proofs.Ytbjcigkakeffmab
