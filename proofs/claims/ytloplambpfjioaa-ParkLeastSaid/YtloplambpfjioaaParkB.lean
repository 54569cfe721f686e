/- Parking: what floors cost. -/
import Derived.Test.YtloplambpfjioaaRows
import Derived.Test.YtloplambpfjioaaRowKit
import Derived.Test.YtloplambpfjioaaRowS
import Derived.Test.YtloplambpfjioaaRowZ
import Derived.Test.YtloplambpfjioaaSlicesEq
import Derived.Test.YtloplambpfjioaaSlicesEqM
import Derived.Test.YtloplambpfjioaaRowL
import Derived.Test.YtloplambpfjioaaRowM
import Derived.Test.YtloplambpfjioaaMakeI
import Derived.Test.YtloplambpfjioaaBlocks
import Derived.Test.YtloplambpfjioaaParkA
import Derived.Test.YtloplambpfjioaaPlaceA
import Derived.Test.YtloplambpfjioaaShelf
import Derived.WalkKit
import Derived.IntWalk
import Derived.Lib.Hide
import Derived.WalkSpells
import Derived.WalkLawsBesides
import Derived.Laws.CopyOwn
import Derived.Laws.MakeOwn
import Derived.Laws.OwnMore
import Derived.OwnWalk
import Derived.Deep.QuietTactic
import Derived.BigQuiet
import Derived.Deep.RegionHeld3
import Derived.Deep.LoopGhost
import Derived.BigRegion
import Derived.Deep.AppendLies
import Derived.Maps.AppendAt
import Derived.Below
namespace Go.Proofs.Ytloplambpfjioaa
open Go.RowKit
set_option linter.unusedSimpArgs false
set_option linter.unusedVariables false
theorem boInfo : (Try.prog.info? 4).map (fun i => (i.zero, i.size, i.bytes)) = some (some (.bool false), 1, 1) := by kernel_rfl
/-- can it be told what these floors cost? -/
def GdP (zs fs : List Int) (n m : Nat) : Prop := RgP zs n ∧ 0 < m ∧ ∀ k, k < m → 0 ≤ zat fs k ∧ zat fs k < n
def coV (zs fs : List Int) (n m : Nat) : Int := cst (zat zs) (fun i => nr (zat fs) i m) n
/-- at which floors one of the first k waits -/
def bt (fs : List Int) : Nat → Nat → Bool
  | 0, _ => false
  | k + 1, j => bt fs k j || (zat fs k == (j : Int))
theorem bt_succ (fs : List Int) (k j : Nat) : bt fs (k + 1) j = (bt fs k j || (zat fs k == (j : Int))) := rfl
theorem bt_iff (fs : List Int) (j : Nat) : ∀ m, bt fs m j = true ↔ ∃ k, k < m ∧ zat fs k = j
  | 0 => by constructor
            · intro h; cases h
            · rintro ⟨k, h, _⟩; omega
  | m + 1 => by
    rw [bt_succ, Bool.or_eq_true, bt_iff fs j m, beq_iff_eq]
    constructor
    · rintro (⟨k, h, e⟩ | e)
      · exact ⟨k, by omega, e⟩
      · exact ⟨m, by omega, e⟩
    · rintro ⟨k, h, e⟩
      by_cases q : k = m
      · right; rw [← q]; exact e
      · left; exact ⟨k, by omega, e⟩
def CoR (zs fs : List Int) (n m : Nat) (w : World) (e : Ending) (w' : World) : Prop := ∃ v er, e = .returned (.tuple #[.int .i64 v, .int .i64 er]) ∧ Below w.heap.size w w' ∧ (GdP zs fs n m → v = coV zs fs n m ∧ er = 0) ∧ (¬ GdP zs fs n m → v = 0 ∧ er = 22)
theorem co_bd {zs fs : List Int} {n m : Nat} (h : GdP zs fs n m) (i : Nat) (hi : i ≤ n) : 0 ≤ cst (zat zs) (fun i => nr (zat fs) i m) i ∧ cst (zat zs) (fun i => nr (zat fs) i m) i ≤ 17179869184 := by
  obtain ⟨⟨h1, h2, h3⟩, h4, h5⟩ := h
  have := cst_bd (l := zat zs) (d := fun i => nr (zat fs) i m) (n := n) (Y := 128) h3 (fun f hf => ⟨nr_nn h4, by have := nr_lt (a := zat fs) (f := f) (n := n) h4 h5 (by omega) (by omega); omega⟩) i hi
  refine ⟨this.1, ?_⟩
  have a := this.2
  have : (i : Int) ≤ 128 := by omega
  omega
theorem nr_bd {zs fs : List Int} {n m : Nat} (h : GdP zs fs n m) (i : Nat) (hi : i < n) : 0 ≤ nr (zat fs) i m ∧ nr (zat fs) i m ≤ 128 := by
  obtain ⟨⟨h1, h2, h3⟩, h4, h5⟩ := h
  exact ⟨nr_nn h4, by have := nr_lt (a := zat fs) (f := i) (n := n) h4 h5 (by omega) (by omega); omega⟩
theorem no_gd {zs fs : List Int} {n m : Nat} {w w' : World} (h : ¬ GdP zs fs n m) (hb : Below w.heap.size w w') : CoR zs fs n m w (.returned (.tuple #[.int .i64 0, .int .i64 22])) w' := ⟨0, 22, rfl, hb, fun q => absurd q h, fun _ => ⟨rfl, rfl⟩⟩
theorem yes_gd {zs fs : List Int} {n m : Nat} {w w' : World} {v : Int} (h : GdP zs fs n m) (hv : v = coV zs fs n m) (hb : Below w.heap.size w w') : CoR zs fs n m w (.returned (.tuple #[.int .i64 v, .int .i64 0])) w' := ⟨v, 0, rfl, hb, fun _ => ⟨hv, rfl⟩, fun q => absurd h q⟩
def RowB (w : World) (B g n : Nat) (f : Nat → Bool) : Prop := ∃ xs, w.ownsRow B 4 1 (.slice (some ⟨g, 0, none⟩) n n) n xs ∧ ∀ j, j < n → xs[j]? = some (.bool (f j))
theorem RowB.cell {w : World} {B g n : Nat} {f : Nat → Bool} (h : RowB w B g n f) {j : Nat} (hj : j < n) : w.cell? ⟨g, j, none⟩ = some (.bool (f j)) := by
  obtain ⟨xs, h1, h2⟩ := h
  rw [h1.cellAt j (by omega)]
  exact h2 j hj
theorem RowB.froz {w : World} {B g n : Nat} {f : Nat → Bool} (h : RowB w B g n f) (j : Nat) : w.frozen? ⟨g, j, none⟩ = false := by
  obtain ⟨xs, h1, _⟩ := h
  exact h1.frozenAt _
theorem RowB.set {w : World} {B g n k p : Nat} {fs : List Int} (h : RowB w B g n (bt fs k)) (hp : p < n) (he : zat fs k = p) : RowB (w.setCell ⟨g, p, none⟩ (.bool true)) B g n (bt fs (k + 1)) := by
  obtain ⟨xs, h1, h2⟩ := h
  refine ⟨_, (h1.stored p (.bool true)).1, fun j hj => ?_⟩
  have hl := h1.1
  rw [List.getElem?_set, bt_succ, he]
  by_cases q : p = j
  · subst q
    rw [if_pos rfl, if_pos (by omega)]; simp
  · rw [if_neg q, h2 j hj]
    have : ((p : Int) == (j : Int)) = false := by simp; omega
    rw [this, Bool.or_false]
set_option maxRecDepth 100000 in
set_option maxHeartbeats 20000000 in
theorem cost_any (A A2 : Option Addr) (c c2 n m : Nat) (zs fs : List Int) (w : World) (hn : zs.length = n) (hm : fs.length = m) (hl : n ≤ 1000000) (hl2 : m ≤ 1000) (hr : RdI w .i64 A zs) (hr2 : RdI w .i64 A2 fs) :
    Calls Try.prog 6 #[.slice A n c, .slice A2 m c2] w (CoR zs fs n m w) := by
  obtain ⟨i0, hi, hz0, hz1, hz2⟩ := info_parts boInfo
  have KR := Lib.hid (pright_any A c n zs w hn (by omega) hr)
  have HR := Lib.hid hr; have HR2 := Lib.hid hr2
  have HMN := Lib.hid (fun h0 => pmin_any A2 c2 m fs w hm h0 hl2 hr2)
  have HMX := Lib.hid (fun h0 => pmax_any A2 c2 m fs w hm h0 hl2 hr2)
  obtain ⟨R, hR⟩ : ∃ R : Ending → World → Prop, CoR zs fs n m w = R := ⟨_, rfl⟩
  have NO : (¬ GdP zs fs n m) → R (.returned (.tuple #[.int .i64 0, .int .i64 22])) w := fun h => by rw [← hR]; exact no_gd h (Below.refl _ _)
  have HNO := Lib.hid NO; have HRR := Lib.hid hR
  rw [hR]
  clear hr hr2 hR NO
  go_enter Try.func6, Try.ntmps6
  go_wp2_with fail
  refine KR.out.mono ?_
  rintro e w1 ⟨b, rfl, hb, rfl⟩
  have HQ := Lib.hid hb
  clear hb KR
  cases b with
  | false =>
    go_wp2_with fail
    exact HNO.out (fun q => by have := HQ.out.2 q.1; cases this)
  | true =>
    have hQ : Hid (RgP zs n) := Lib.hid (HQ.out.1 rfl)
    by_cases h0 : m = 0
    · have HM := Lib.hid h0
      have hb0 : ((m : Int) == 0) = true := by simp [h0]
      clear h0
      go_wp2_with fail
      exact HNO.out (fun q => by have := q.2.1; have := HM.out; omega)
    have hb0 : ((m : Int) == 0) = false := by simp; omega
    have hm0 : 0 < m := by omega
    obtain ⟨mn1, i1, hi1, mn2⟩ := min_of fs m hm0 (by omega)
    obtain ⟨mx1, j1, hj1, mx2⟩ := max_of fs m hm0 (by omega)
    have JN := Lib.hid (HMN.out hm0); have JX := Lib.hid (HMX.out hm0)
    obtain ⟨mn, hmn⟩ : ∃ z, Lib.minOf (fs.take m) = z := ⟨_, rfl⟩
    obtain ⟨mx, hmx⟩ : ∃ z, Lib.maxOf (fs.take m) = z := ⟨_, rfl⟩
    rw [hmn] at JN mn1 mn2
    rw [hmx] at JX mx1 mx2
    have N1 := Lib.hid mn1; have N2 := Lib.hid (show ∃ i, i < m ∧ zat fs i = mn from ⟨i1, hi1, mn2⟩)
    have X1 := Lib.hid mx1; have X2 := Lib.hid (show ∃ i, i < m ∧ zat fs i = mx from ⟨j1, hj1, mx2⟩)
    clear mn1 mn2 mx1 mx2 hmn hmx hi1 hj1 HMN HMX
    go_wp2_with fail
    refine JN.out.mono ?_
    rintro e w2 ⟨rfl, rfl⟩
    by_cases h1 : mn < 0
    · have d1 : decide (mn < 0) = true := decide_eq_true h1
      go_wp2_with fail
      exact HNO.out (fun q => by obtain ⟨i, hi, e⟩ := N2.out; have := (q.2.2 i hi).1; omega)
    have d1 : decide (mn < 0) = false := decide_eq_false h1
    go_wp2_with fail
    refine JX.out.mono ?_
    rintro e w2 ⟨rfl, rfl⟩
    by_cases h2 : (n : Int) ≤ mx
    · have d2 : decide ((n : Int) ≤ mx) = true := decide_eq_true h2
      go_wp2_with fail
      exact HNO.out (fun q => by obtain ⟨i, hi, e⟩ := X2.out; have := (q.2.2 i hi).2; omega)
    have d2 : decide ((n : Int) ≤ mx) = false := decide_eq_false h2
    have HG : Hid (GdP zs fs n m) := Lib.hid ⟨hQ.out, hm0, fun k hk => by have := N1.out k hk; have := X1.out k hk; omega⟩
    have hn1 : n ≤ 128 := hQ.out.2.1
    have hn0 : 0 < n := hQ.out.1
    have HI := Lib.hid (And.intro hi (And.intro hz0 (And.intro hz1 hz2)))
    clear JN JX N1 N2 X1 X2 HQ hQ HNO h1 h2
    go_wp2_with (at_make; refine wpList_make_full _ rfl _ _ 37 rfl w.heap.size 4 i0 (.bool false) 1 Try.underlying37 hi hz0 hz1 _ _ _ _ n rfl rfl (by omega) (by omega) (by rw [hz2]; omega) (by unfold maxLen; omega) (Nat.le_refl _) ?_; intro w0 hown0 hgrow0)
    have hb0' : Below w.heap.size w w0 := (Below.refl _ _).grown hgrow0 (Nat.le_refl _) (fun k h => by cases h)
    have HB0 := Lib.hid hb0'
    have HO : Hid (RowB w0 w.heap.size w.heap.size n (bt fs 0)) := Lib.hid ⟨_, hown0, fun j hj => by
      simp [madeCells, bt, hj]
      show (#[Value.bool false] : Array Value)[j % 1]! = _
      rw [Nat.mod_one]; rfl⟩
    clear hgrow0 hown0 hb0' hi hz0 hz1 hz2 HI
    go_wp2_with fail
    go_loopw [37] (fun i wr => ∃ k : Nat, k ≤ m ∧ i = .int .i64 k ∧ Hid (RowB wr w.heap.size w.heap.size n (bt fs k)) ∧ Hid (Below w.heap.size w wr)) (fun i _ => m - (intOf i).toNat)
    case atStart => exact ⟨0, Nat.zero_le _, rfl, HO, HB0⟩
    case round =>
      clear HO HB0
      obtain ⟨k, hk, rfl, HO, EE⟩ := hrel
      by_cases hkm : k < m
      · have hki : (k : Int) < (m : Int) := by omega
        obtain ⟨b, off, rfl, hlt, hcell⟩ := rdI_row HR2.out (by omega)
        have c1 := (EE.out.cell (p := ⟨b, off + k, none⟩) hlt).trans (hcell k (by omega))
        obtain ⟨p, hp⟩ : ∃ p : Nat, zat fs k = p := ⟨(zat fs k).toNat, by have := HG.out.2.2 k hkm; omega⟩
        have hpn : p < n := by have := HG.out.2.2 k hkm; omega
        have hpi : (p : Int) < (n : Int) := by omega
        have HP := Lib.hid hp
        rw [hp] at c1
        have c2 := HO.out.cell hpn
        have f2 := HO.out.froz p
        have hgl : w.heap.size < wr.heap.size := lt_of_cell c2
        clear hcell hp
        go_wp2_with fail
        go_roundw
        case rel => exact ⟨k + 1, by omega, by go_num, Lib.hid (HO.out.set hpn HP.out), Lib.hid (EE.out.setCell (p := ⟨w.heap.size, p, none⟩) (Nat.le_refl _) _)⟩
        case measure => simp [intOf]; omega
      · obtain rfl : k = m := by omega
        have HFR : Hid (∀ i, i < n → frB (bt fs k) i n n = nr (zat fs) i k) := Lib.hid (fun i hi => frB_nr hm0 HG.out.2.2 (fun j _ => bt_iff fs j k) (by omega) (by omega))
        go_wp2_with fail
        go_loopw [9, 47] (fun sv i wq => ∃ (j : Nat) (s : Int), s = cst (zat zs) (fun i => nr (zat fs) i k) j ∧ j ≤ n ∧ sv = .int .i64 s ∧ i = .int .i64 j ∧ wq = wr) (fun _ i _ => n - (intOf i).toNat)
        case atStart => exact ⟨0, 0, rfl, Nat.zero_le _, rfl, rfl, rfl⟩
        case round =>
          obtain ⟨j, s, hs, hj, rfl, rfl, rfl⟩ := hrel
          have HS := Lib.hid hs
          have hsb := co_bd HG.out j hj
          rw [← hs] at hsb
          clear hs
          by_cases hjn : j < n
          · have hji : (j : Int) < (n : Int) := by omega
            obtain ⟨b, off, rfl, hlt, hcell⟩ := rdI_row HR.out (by omega)
            have c1 := (EE.out.cell (p := ⟨b, off + j, none⟩) hlt).trans (hcell j (by omega))
            have hz := HG.out.1.2.2 j hjn
            have hd := nr_bd HG.out j hjn
            have KN := near_any w.heap.size n n (bt fs k) j _ (fun i hi => HO.out.cell hi) hn1 hjn
            rw [HFR.out j hjn] at KN
            have hs1 := cst_succ (zat zs) (fun i => nr (zat fs) i k) j
            rw [← HS.out] at hs1
            obtain ⟨x, hx⟩ : ∃ x, zat zs j = x := ⟨_, rfl⟩
            obtain ⟨d, hd'⟩ : ∃ x, nr (zat fs) j k = x := ⟨_, rfl⟩
            rw [hx] at c1 hz hs1
            rw [hd'] at KN hd hs1
            have hmul := mul_bd hz.1 hz.2 hd.1 hd.2
            obtain ⟨y, hy⟩ : ∃ y, x * d = y := ⟨_, rfl⟩
            rw [hy] at hmul hs1
            have q1 : IntKind.i64.wrap (x * d) = y := by rw [hy]; exact IntWalk.i64_in _ (by omega)
            have q2 : wrap64 (x * d) = y := by rw [hy]; exact IntWalk.wrap64_in _ (by omega)
            have q3 : IntKind.i64.wrap (s + y) = s + y := IntWalk.i64_in _ (by omega)
            have q4 : wrap64 (s + y) = s + y := IntWalk.wrap64_in _ (by omega)
            have HS1 := Lib.hid hs1; have HKN := Lib.hid KN
            clear hcell hs1 KN hx hd' hy hz hd hmul
            go_wp2_with fail
            refine HKN.out.mono ?_
            rintro e w5 ⟨rfl, rfl⟩
            go_wp2_with fail
            go_roundw
            case rel => first | exact ⟨j + 1, s + y, HS1.out.symm, by omega, rfl, by go_num, rfl⟩ | exact ⟨j + 1, s + y, HS1.out.symm, by omega, rfl, by go_num, trivial⟩ | exact ⟨j + 1, s + y, HS1.out.symm, by omega, rfl, by go_num⟩
            case measure => simp [intOf]; omega
          · obtain rfl : j = n := by omega
            go_wp2_with fail
            rw [← HRR.out]
            exact yes_gd HG.out HS.out EE.out
end Go.Proofs.Ytloplambpfjioaa
