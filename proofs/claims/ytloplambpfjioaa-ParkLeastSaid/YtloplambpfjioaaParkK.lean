/- Parking: the document's least: all rows of floors are tried, by bits. -/
import Derived.Test.YtloplambpfjioaaRows
import Derived.Test.YtloplambpfjioaaRowKit
import Derived.Test.YtloplambpfjioaaRowS
import Derived.Test.YtloplambpfjioaaRowZ
import Derived.Test.YtloplambpfjioaaSlicesEq
import Derived.Test.YtloplambpfjioaaSlicesEqM
import Derived.Test.YtloplambpfjioaaRowL
import Derived.Test.YtloplambpfjioaaRowM
import Derived.Test.YtloplambpfjioaaMakeI
import Derived.Test.YtloplambpfjioaaBlocks
import Derived.Test.YtloplambpfjioaaParkJ
import Derived.Test.YtloplambpfjioaaParkPlan
import Derived.Test.YtloplambpfjioaaRowM
import Derived.Test.YtloplambpfjioaaPlaceA
import Derived.Test.YtloplambpfjioaaShelf
import Derived.WalkKit
import Derived.IntWalk
import Derived.Lib.Hide
import Derived.WalkSpells
import Derived.WalkLawsBesides
import Derived.Laws.CopyOwn
import Derived.Laws.MakeOwn
import Derived.Laws.OwnMore
import Derived.OwnWalk
import Derived.Deep.QuietTactic
import Derived.BigQuiet
import Derived.Deep.RegionHeld3
import Derived.Deep.LoopGhost
import Derived.BigRegion
import Derived.Deep.AppendLies
import Derived.Maps.AppendAt
import Derived.Below
namespace Go.Proofs.Ytloplambpfjioaa
open Go.RowKit
set_option linter.unusedSimpArgs false
set_option linter.unusedVariables false
/-- the floors of a number's bits -/
def sel (m : Nat) : Nat → List Int
  | 0 => []
  | i + 1 => if m / 2 ^ i % 2 = 1 then sel m i ++ [(i : Int)] else sel m i
theorem sel_zero (m : Nat) : sel m 0 = [] := rfl
theorem sel_succ (m i : Nat) : sel m (i + 1) = if m / 2 ^ i % 2 = 1 then sel m i ++ [(i : Int)] else sel m i := rfl
theorem sel_len (m : Nat) : ∀ i, (sel m i).length ≤ i
  | 0 => Nat.le_refl _
  | i + 1 => by
    have := sel_len m i
    rw [sel_succ]
    split
    · rw [List.length_append]; simp; omega
    · omega
theorem sel_mem (m : Nat) (s : Int) : ∀ i, s ∈ sel m i ↔ ∃ j : Nat, j < i ∧ s = j ∧ m / 2 ^ j % 2 = 1
  | 0 => by simp [sel_zero]
  | i + 1 => by
    rw [sel_succ]
    have ih := sel_mem m s i
    split
    · rename_i h
      rw [List.mem_append, ih, List.mem_singleton]
      constructor
      · rintro (⟨j, h1, h2, h3⟩ | h1)
        · exact ⟨j, by omega, h2, h3⟩
        · exact ⟨i, by omega, h1, h⟩
      · rintro ⟨j, h1, h2, h3⟩
        by_cases q : j = i
        · right; rw [h2, q]
        · left; exact ⟨j, by omega, h2, h3⟩
    · rename_i h
      rw [ih]
      constructor
      · rintro ⟨j, h1, h2, h3⟩; exact ⟨j, by omega, h2, h3⟩
      · rintro ⟨j, h1, h2, h3⟩
        by_cases q : j = i
        · rw [q] at h3; exact absurd h3 h
        · exact ⟨j, by omega, h2, h3⟩
theorem sel_rise (m : Nat) : ∀ i, (sel m i).Pairwise (· < ·)
  | 0 => by rw [sel_zero]; exact List.Pairwise.nil
  | i + 1 => by
    rw [sel_succ]
    split
    · rw [List.pairwise_append]
      refine ⟨sel_rise m i, by simp, fun a ha b hb => ?_⟩
      obtain ⟨j, h1, h2, _⟩ := (sel_mem m a i).1 ha
      rw [List.mem_singleton.1 hb, h2]; omega
    · exact sel_rise m i
theorem sel_nil (m : Nat) : ∀ i, sel m i = [] → m % 2 ^ i = 0
  | 0, _ => Nat.mod_one _
  | i + 1, h => by
    rw [sel_succ] at h
    split at h
    · simp at h
    · rename_i hb
      have := sel_nil m i h
      rw [Nat.pow_succ, Nat.mod_mul, this]
      have : m / 2 ^ i % 2 = 0 := by omega
      rw [this]; simp
theorem sel_ne {m n : Nat} (h0 : 0 < m) (h : m < 2 ^ n) : sel m n ≠ [] := fun e => by
  have := sel_nil m n e
  rw [Nat.mod_eq_of_lt h] at this; omega
def msk (p : Nat → Bool) : Nat → Nat
  | 0 => 0
  | i + 1 => msk p i + (if p i then 2 ^ i else 0)
theorem msk_succ (p : Nat → Bool) (i : Nat) : msk p (i + 1) = msk p i + (if p i then 2 ^ i else 0) := rfl
theorem msk_lt (p : Nat → Bool) : ∀ n, msk p n < 2 ^ n
  | 0 => Nat.zero_lt_one
  | n + 1 => by
    have := msk_lt p n
    rw [msk_succ, Nat.pow_succ]
    split <;> omega
theorem msk_bits (p : Nat → Bool) (i : Nat) : ∀ k, ∃ q, msk p (i + 1 + k) = msk p i + 2 ^ i * ((if p i then 1 else 0) + 2 * q)
  | 0 => ⟨0, by rw [Nat.add_zero, msk_succ]; split <;> simp⟩
  | k + 1 => by
    obtain ⟨q, hq⟩ := msk_bits p i k
    rw [← Nat.add_assoc, msk_succ, hq]
    by_cases hp : p (i + 1 + k) = true
    · rw [if_pos hp]
      refine ⟨q + 2 ^ k, ?_⟩
      rw [show i + 1 + k = i + (k + 1) by omega, Nat.pow_add, Nat.add_assoc, ← Nat.mul_add]
      congr 2
      rw [Nat.pow_succ, Nat.mul_add]; omega
    · rw [if_neg hp]; exact ⟨q, rfl⟩
theorem msk_bit (p : Nat → Bool) {i n : Nat} (h : i < n) : msk p n / 2 ^ i % 2 = 1 ↔ p i = true := by
  obtain ⟨q, hq⟩ := msk_bits p i (n - (i + 1))
  rw [show i + 1 + (n - (i + 1)) = n by omega] at hq
  rw [hq, Nat.add_mul_div_left _ _ (Nat.two_pow_pos i), Nat.div_eq_of_lt (msk_lt p i)]
  cases p i <;> simp <;> omega
theorem rise_unique : ∀ {a b : List Int}, a.Pairwise (· < ·) → b.Pairwise (· < ·) → (∀ x, x ∈ a ↔ x ∈ b) → a = b
  | [], [], _, _, _ => rfl
  | [], y :: s, _, _, h => by have := (h y).2 (by simp); simp at this
  | x :: r, [], _, _, h => by have := (h x).1 (by simp); simp at this
  | x :: r, y :: s, ha, hb, h => by
    obtain ⟨a1, a2⟩ := List.pairwise_cons.1 ha
    obtain ⟨b1, b2⟩ := List.pairwise_cons.1 hb
    have hxy : x = y := by
      have h1 := (h x).1 (by simp)
      have h2 := (h y).2 (by simp)
      rcases List.mem_cons.1 h1 with q | q
      · exact q
      · rcases List.mem_cons.1 h2 with q2 | q2
        · exact q2.symm
        · have := b1 x q; have := a1 y q2; omega
    subst hxy
    rw [rise_unique a2 b2 (fun z => by
      have := h z
      constructor
      · intro hz
        have hzx := a1 z hz
        rcases List.mem_cons.1 (this.1 (List.mem_cons_of_mem _ hz)) with q | q
        · omega
        · exact q
      · intro hz
        have hzx := b1 z hz
        rcases List.mem_cons.1 (this.2 (List.mem_cons_of_mem _ hz)) with q | q
        · omega
        · exact q)]
/-- the number whose bits are just these floors -/
theorem sel_of {fs : List Int} {n : Nat} (hr : fs.Pairwise (· < ·)) (hb : ∀ s, s ∈ fs → 0 ≤ s ∧ s < n) : sel (msk (fun i => decide ((i : Int) ∈ fs)) n) n = fs := by
  refine rise_unique (sel_rise _ _) hr (fun x => ?_)
  rw [sel_mem]
  constructor
  · rintro ⟨j, h1, h2, h3⟩
    rw [msk_bit _ h1] at h3
    rw [h2]; simpa using h3
  · intro hx
    have := hb x hx
    refine ⟨x.toNat, by omega, by omega, ?_⟩
    rw [msk_bit _ (by omega)]
    simp only [decide_eq_true_eq]
    rw [show ((x.toNat : Nat) : Int) = x by omega]; exact hx
def coM (zs : List Int) (n m : Nat) : Int := coV zs (sel m n) n (sel m n).length
/-- the least behind the first t numbers -/
def bsL (zs : List Int) (n : Nat) (k : Int) : Nat → Int
  | 0 => -1
  | t + 1 => if k < ((sel (t + 1) n).length : Int) then bsL zs n k t else if bsL zs n k t < 0 ∨ coM zs n (t + 1) < bsL zs n k t then coM zs n (t + 1) else bsL zs n k t
theorem bsL_zero (zs : List Int) (n : Nat) (k : Int) : bsL zs n k 0 = -1 := rfl
theorem bsL_succ (zs : List Int) (n : Nat) (k : Int) (t : Nat) : bsL zs n k (t + 1) = if k < ((sel (t + 1) n).length : Int) then bsL zs n k t else if bsL zs n k t < 0 ∨ coM zs n (t + 1) < bsL zs n k t then coM zs n (t + 1) else bsL zs n k t := rfl
theorem sel_gd {zs : List Int} {n m : Nat} (hq : RgP zs n) (h0 : 0 < m) (h : m < 2 ^ n) : GdP zs (sel m n) n (sel m n).length := by
  refine ⟨hq, ?_, fun j hj => ?_⟩
  · rcases Nat.eq_zero_or_pos (sel m n).length with e | e
    · exact absurd (List.length_eq_zero_iff.1 e) (sel_ne h0 h)
    · exact e
  · obtain ⟨i, h1, h2, _⟩ := (sel_mem m _ n).1 (zat_mem hj)
    rw [h2]; omega
theorem coM_nn {zs : List Int} {n m : Nat} (hq : RgP zs n) (h0 : 0 < m) (h : m < 2 ^ n) : 0 ≤ coM zs n m ∧ coM zs n m ≤ 17179869184 := co_bd (sel_gd hq h0 h) n (Nat.le_refl _)
theorem bsL_inv {zs : List Int} {n : Nat} {k : Int} (hq : RgP zs n) : ∀ t, t < 2 ^ n → (∀ m, 0 < m → m ≤ t → ((sel m n).length : Int) ≤ k → 0 ≤ bsL zs n k t ∧ bsL zs n k t ≤ coM zs n m) ∧ (bsL zs n k t = -1 ∨ ∃ m, 0 < m ∧ m ≤ t ∧ ((sel m n).length : Int) ≤ k ∧ bsL zs n k t = coM zs n m)
  | 0, _ => ⟨fun m h0 h1 => by omega, Or.inl rfl⟩
  | t + 1, ht => by
    obtain ⟨i1, i2⟩ := bsL_inv (k := k) hq t (by omega)
    have hc := coM_nn hq (m := t + 1) (by omega) ht
    rw [bsL_succ]
    by_cases h1 : k < ((sel (t + 1) n).length : Int)
    · rw [if_pos h1]
      refine ⟨fun m h0 hm hk => ?_, ?_⟩
      · by_cases q : m = t + 1
        · rw [q] at hk; omega
        · exact i1 m h0 (by omega) hk
      · rcases i2 with h | ⟨m, a, b, c, d⟩
        · exact Or.inl h
        · exact Or.inr ⟨m, a, by omega, c, d⟩
    · rw [if_neg h1]
      by_cases h2 : bsL zs n k t < 0 ∨ coM zs n (t + 1) < bsL zs n k t
      · rw [if_pos h2]
        refine ⟨fun m h0 hm hk => ?_, Or.inr ⟨t + 1, by omega, Nat.le_refl _, by omega, rfl⟩⟩
        by_cases q : m = t + 1
        · rw [q]; omega
        · have := i1 m h0 (by omega) hk
          omega
      · rw [if_neg h2]
        refine ⟨fun m h0 hm hk => ?_, ?_⟩
        · by_cases q : m = t + 1
          · rw [q]; omega
          · exact i1 m h0 (by omega) hk
        · rcases i2 with h | ⟨m, a, b, c, d⟩
          · exact Or.inl h
          · exact Or.inr ⟨m, a, by omega, c, d⟩
theorem bsL_best {zs fs : List Int} {n : Nat} {k v : Int} (hq : RgP zs n) (h : OptP zs n k fs v) : bsL zs n k (2 ^ n - 1) = v := by
  have hp := Nat.two_pow_pos n
  obtain ⟨i1, i2⟩ := bsL_inv (k := k) hq (2 ^ n - 1) (by omega)
  obtain ⟨hgd, hco⟩ := optP_co h hq
  obtain ⟨h1, h2, h3, h4, h5, h6, h7⟩ := h
  obtain ⟨m, hm⟩ : ∃ m, msk (fun i => decide ((i : Int) ∈ fs)) n = m := ⟨_, rfl⟩
  have hs := sel_of h3 h4
  rw [hm] at hs
  have hml : m < 2 ^ n := by rw [← hm]; exact msk_lt _ _
  have hm0 : 0 < m := by
    rcases Nat.eq_zero_or_pos m with e | e
    · exfalso
      rw [e] at hs
      have hz : ∀ i, sel 0 i = [] := fun i => by
        induction i with
        | zero => rfl
        | succ i ih => rw [sel_succ, if_neg (by simp), ih]
      rw [hz] at hs
      exact h1 hs.symm
    · exact e
  have a := i1 m hm0 (by omega) (by rw [hs]; exact h2)
  have e : coM zs n m = v := by unfold coM; rw [hs]; exact hco.symm
  rw [e] at a
  rcases i2 with q | ⟨p, p0, p1, p2, p3⟩
  · omega
  · have hgp := sel_gd hq p0 (show p < 2 ^ n by omega)
    have := h7 (sel p n) (sel_ne p0 (by omega)) p2
    rw [← coV_sm rfl hgp.2.1] at this
    have : v ≤ coM zs n p := this
    omega
set_option maxRecDepth 100000 in
set_option maxHeartbeats 20000000 in
theorem dleast_any (A : Option Addr) (c n : Nat) (zs : List Int) (k : Int) (w : World) (hn : zs.length = n) (h9 : n ≤ 9) (hq : RgP zs n) (hr : RdI w .i64 A zs) :
    Calls Try.prog 11 #[.slice A n c, .int .i64 k] w fun e w' => e = .returned (.int .i64 (bsL zs n k (2 ^ n - 1))) ∧ Below w.heap.size w w' := by
  obtain ⟨i0, hi, hz0, hz1, hz2⟩ := info_parts intInfo'
  have HQ := Lib.hid hq
  have KD := Lib.hid (fun (W : World) (hb : Below w.heap.size w W) (P : Option Addr) (d m : Nat) (fs : List Int) (hm : fs.length = m) (hf : m ≤ 1000) (hr2 : RdI W .i64 P fs) => dcost_any A P c d n m zs fs W hn hm (by omega) hf (hr.kept hb) hr2)
  obtain ⟨R, hR⟩ : ∃ R : Ending → World → Prop, (fun (e : Ending) (w' : World) => e = .returned (.int .i64 (bsL zs n k (2 ^ n - 1))) ∧ Below w.heap.size w w') = R := ⟨_, rfl⟩
  have HRR := Lib.hid hR
  rw [hR]
  obtain ⟨N, hN⟩ : ∃ N, 2 ^ n = N := ⟨_, rfl⟩
  have HN := Lib.hid hN
  have hNp : 0 < N := by rw [← hN]; exact Nat.two_pow_pos n
  have hNl : N ≤ 512 := by rw [← hN]; exact Nat.pow_le_pow_right (by omega) h9
  clear hr hR hq hN
  go_enter Try.func11, Try.ntmps11
  go_wp2_with fail
  go_loopg [5, 6] (N - 1) (fun gh bv mv wr => ∃ t : Nat, t + 1 ≤ N ∧ gh = N - (t + 1) ∧ mv = .int .i64 ((t + 1 : Nat) : Int) ∧ bv = .int .i64 (bsL zs n k t) ∧ Hid (Below w.heap.size w wr))
  case atStart => exact ⟨0, by omega, rfl, rfl, rfl, Lib.hid (Below.refl _ _)⟩
  case round =>
    obtain ⟨t, ht, rfl, rfl, rfl, EE⟩ := hrel
    rename World => w1
    have hw : wrap64 ((2 : Int) ^ n) = (N : Int) := by
      have e : ((2 : Int) ^ n) = ((2 ^ n : Nat) : Int) := by simp
      rw [e, HN.out]; exact IntWalk.wrap64_in _ (by omega)
    obtain ⟨M, hM⟩ : ∃ M, t + 1 = M := ⟨_, rfl⟩
    rw [hM]
    have HM := Lib.hid hM
    have hM0 : 0 < M := by omega
    by_cases htN : M < N
    · have hti : (M : Int) < (N : Int) := by omega
      clear hM
      go_wp2_with fail
      clear hw
      go_loopg [7, 8] n (fun gh av iv wr => ∃ i : Nat, i ≤ n ∧ gh = n - i ∧ iv = .int .i64 i ∧ Hid (wr.ownsRow w.heap.size 3 1 av (sel M i).length ((sel M i).map (Value.int .i64))) ∧ Hid (Below w.heap.size w wr))
      case atStart => exact ⟨0, Nat.zero_le _, rfl, rfl, Lib.hid (World.ownsRow_nil ..), EE⟩
      case round =>
        clear EE
        obtain ⟨i, hi0, rfl, rfl, HO, EE⟩ := hrel
        rename World => w3
        by_cases hin : i < n
        · have hii : (i : Int) < (n : Int) := by omega
          obtain ⟨q, hq⟩ : ∃ q, M / 2 ^ i = q := ⟨_, rfl⟩
          have hd : (M : Int) / 2 ^ i = (q : Int) := by rw [← hq]; simp
          have hsl := sel_len M i
          have hsz := EE.out.size
          by_cases hb : q % 2 = 1
          · have ht2 : (q : Int).tmod 2 = 1 := by rw [Int.tmod_eq_emod_of_nonneg (by omega)]; omega
            have hown2 := HO.out.alloc (.cells #[.int .i64 (i : Int)] 3)
            have E2 := Lib.hid (EE.out.alloc EE.out.size (.cells #[.int .i64 (i : Int)] 3))
            have hsel : sel M (i + 1) = sel M i ++ [(i : Int)] := by rw [sel_succ, hq, if_pos hb]
            have HSEL := Lib.hid hsel
            clear hsel hq hb
            go_wp2_with (at_builtin; refine wpList_append_own _ rfl _ _ 22 rfl w.heap.size 3 i0 (.int .i64 0) 1 8 Try.underlying22 hi hz0 hz1 hz2 rfl (by decide) _ _ _ rfl hown2 ⟨_, 0, none⟩ 1 1 [.int .i64 (i : Int)] rfl rfl one_newR (by intro u hu; simp at hu; subst hu; rfl) (by unfold maxLen; omega) (by omega) (by simp; omega) ?_; intro v' w4 hown' hgrow _)
            have HO4 : Hid (w4.ownsRow w.heap.size 3 1 v' (sel M (i + 1)).length ((sel M (i + 1)).map (Value.int .i64))) := Lib.hid (by
              rw [HSEL.out, List.map_append, List.length_append]; exact hown')
            have E4 := Lib.hid (E2.out.grown hgrow (by simp; omega) (fun r hr => (hown2.lt r hr).1))
            clear hown' hgrow hown2 E2 HO EE
            go_wp2_with fail
            go_roundg (n - (i + 1))
            case measure => omega
            case rel => exact ⟨i + 1, by omega, rfl, by go_num, HO4, E4⟩
          · have ht2 : (q : Int).tmod 2 = 0 := by rw [Int.tmod_eq_emod_of_nonneg (by omega)]; omega
            have HO4 := Lib.hid HO.out
            rw [show sel M i = sel M (i + 1) by rw [sel_succ, hq, if_neg hb]] at HO4
            clear hq hb
            go_wp2_with fail
            go_roundg (n - (i + 1))
            case measure => omega
            case rel => exact ⟨i + 1, by omega, rfl, by go_num, HO4, EE⟩
        · obtain rfl : i = n := by omega
          have hgd : Hid (GdP zs (sel M i) i (sel M i).length) := Lib.hid (sel_gd HQ.out hM0 (by rw [HN.out]; exact htN))
          have hcb := Lib.hid (coM_nn HQ.out hM0 (by rw [HN.out]; exact htN))
          obtain ⟨P, d, rfl, hrs⟩ := ownR_rd HO.out (fun j hj => by
            obtain ⟨j2, h1, h2, _⟩ := (sel_mem M _ i).1 (zat_mem hj)
            rw [h2]; exact WalkArith.wf_i64 (by omega))
          have hbs := bsL_succ zs i k t
          rw [HM.out] at hbs
          obtain ⟨L, hL⟩ : ∃ L, (sel M i).length = L := ⟨_, rfl⟩
          have hLi : L ≤ i := by rw [← hL]; exact sel_len M i
          have KD2 := Lib.hid (KD.out w3 EE.out P d L (sel M i) hL (by omega) hrs)
          rw [hL] at hbs hgd ⊢
          obtain ⟨b, hb⟩ : ∃ b, bsL zs i k t = b := ⟨_, rfl⟩
          rw [hb] at hbs ⊢
          have HBS := Lib.hid hbs
          have HLL := Lib.hid hL
          clear hrs hbs hb hL HO
          have qM : IntKind.i64.wrap ((M : Int) + 1) = ((M + 1 : Nat) : Int) := by rw [IntWalk.i64_in _ (by omega)]; simp
          have qM2 : wrap64 ((M : Int) + 1) = ((M + 1 : Nat) : Int) := by rw [IntWalk.wrap64_in _ (by omega)]; simp
          have HQM := Lib.hid (And.intro qM qM2)
          clear qM qM2
          by_cases hkL : k < (L : Int)
          · have HV : Hid (bsL zs i k M = b) := Lib.hid (by rw [HBS.out, if_pos hkL])
            have qM := HQM.out.1; have qM2 := HQM.out.2
            go_wp2_with fail
            go_roundg (N - (M + 1))
            case measure => have := HM.out; clear qM qM2; omega
            case rel => exact ⟨M, by have := HM.out; clear qM qM2; omega, rfl, rfl, by rw [HV.out], EE⟩
          · have hb2 := HBS.out
            rw [if_neg hkL] at hb2
            have HB2 := Lib.hid hb2
            clear hb2 HBS
            go_wp2_with fail
            refine KD2.out.mono ?_
            rintro e w5 ⟨v, ok, rfl, hb, hy, _⟩
            obtain ⟨hv, rfl⟩ := hy hgd.out
            have E5 := Lib.hid (EE.out.trans (hb.mono EE.out.size))
            have hcv : coM zs i M = v := by unfold coM; rw [HLL.out, hv]
            rw [hcv] at HB2
            clear hb hy hv hcv EE KD2
            by_cases hb0 : b < 0
            · have HV : Hid (bsL zs i k M = v) := Lib.hid (by rw [HB2.out, if_pos (Or.inl hb0)])
              have qM := HQM.out.1; have qM2 := HQM.out.2
              go_wp2_with fail
              go_roundg (N - (M + 1))
              case measure => have := HM.out; clear qM qM2; omega
              case rel => exact ⟨M, by have := HM.out; clear qM qM2; omega, rfl, rfl, by rw [HV.out], E5⟩
            · by_cases hvb : v < b
              · have HV : Hid (bsL zs i k M = v) := Lib.hid (by rw [HB2.out, if_pos (Or.inr hvb)])
                have qM := HQM.out.1; have qM2 := HQM.out.2
                go_wp2_with fail
                go_roundg (N - (M + 1))
                case measure => have := HM.out; clear qM qM2; omega
                case rel => exact ⟨M, by have := HM.out; clear qM qM2; omega, rfl, rfl, by rw [HV.out], E5⟩
              · have HV : Hid (bsL zs i k M = b) := Lib.hid (by rw [HB2.out, if_neg (by omega)])
                have qM := HQM.out.1; have qM2 := HQM.out.2
                go_wp2_with fail
                go_roundg (N - (M + 1))
                case measure => have := HM.out; clear qM qM2; omega
                case rel => exact ⟨M, by have := HM.out; clear qM qM2; omega, rfl, rfl, by rw [HV.out], E5⟩
    · have hti : ¬ (M : Int) < (N : Int) := by omega
      have hfin : bsL zs n k t = bsL zs n k (2 ^ n - 1) := by rw [HN.out]; congr 1; omega
      go_wp2_with fail
      rw [← HRR.out]
      exact ⟨by rw [← hfin], EE.out⟩
end Go.Proofs.Ytloplambpfjioaa
