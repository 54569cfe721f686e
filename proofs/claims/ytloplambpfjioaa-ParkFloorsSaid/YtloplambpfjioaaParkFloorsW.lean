/- The walk of ParkFloors: it answers true for every input, and leaves all old blocks as they were. No condition. -/
import Derived.Test.YtloplambpfjioaaRows
import Derived.Test.YtloplambpfjioaaRowKit
import Derived.Test.YtloplambpfjioaaRowS
import Derived.Test.YtloplambpfjioaaRowZ
import Derived.Test.YtloplambpfjioaaSlicesEq
import Derived.Test.YtloplambpfjioaaBlocks
import Derived.Test.YtloplambpfjioaaAtKit
import Derived.Test.YtloplambpfjioaaParkJ
import Derived.WalkKit
import Derived.ProofKit
import Derived.OpenShut
import Derived.Deep.QuietTactic
import Derived.BigQuiet
import Derived.Lib.SmallJoins
import Derived.Lib.Hide
import Derived.WalkSpells
import Derived.WalkLawsBesides
import Derived.OwnWalk
import Derived.BigRegion
import Derived.Deep.LoopGhost
import Derived.Deep.RegionHeld3
import Derived.IntWalk
namespace Go.Proofs.Ytloplambpfjioaa.parkFloors
open Go.ChangeShapes Go.WideShapes Go.ChangeAt Go.RowKit Go.Joins
set_option linter.unusedSimpArgs false
set_option linter.unusedVariables false

set_option maxRecDepth 100000 in
set_option maxHeartbeats 40000000 in
theorem walk {A : Option Addr} {ca : Nat} {a : List Int} {k : Int} {w : World} (h1 : a.length ≤ ca) (h2 : ca ≤ maxLen) (hra : RdI w .i64 A a) (wk : (Lit.int .i64 k).wf = true) :
    Calls Try.prog 5 #[.slice A a.length ca, .int .i64 k] w fun e w' => e = .returned (.bool true) ∧ Below w.heap.size w w' := by
  obtain ⟨n, hn⟩ : ∃ n, a.length = n := ⟨_, rfl⟩
  rw [hn]
  have hM : maxLen ≤ 9223372036854775807 := by decide
  have KR := Lib.hid (drightP_any A ca n a w hn (by omega) hra)
  have KB := Lib.hid (best_any A ca n a k w hn (by omega) h2 hra)
  have HRA := Lib.hid hra
  have KC := Lib.hid (fun (hl : n ≤ 128) (W : World) (hb : Below w.heap.size w W) (P : Option Addr) (c : Nat) (fs : List Int) (hf : fs.length ≤ 1000) (hr : RdI W .i64 P fs) => cost_any A P ca c n fs.length a fs W hn rfl (by omega) hf (hra.kept hb) hr)
  have KD := Lib.hid (fun (hl : n ≤ 128) (W : World) (hb : Below w.heap.size w W) (P : Option Addr) (c m : Nat) (fs : List Int) (hm : fs.length = m) (hf : m ≤ 1000) (hr : RdI W .i64 P fs) => dcost_any A P ca c n m a fs W hn hm (by omega) hf (hra.kept hb) hr)
  clear hra h1 h2 hM hn
  go_enter Try.func5, Try.ntmps5
  go_wp2_with fail
  refine KR.out.mono ?_
  rintro e w1 ⟨b, rfl, hb, rfl⟩
  have HQ := Lib.hid hb
  clear hb KR
  cases b with
  | false =>
    go_wp2_with fail
    go_ret
    exact ⟨rfl, Below.refl _ _⟩
  | true =>
    have hQ : Hid (RgP a n) := Lib.hid (HQ.out.1 rfl)
    have h128 := hQ.out.2.1
    by_cases g1 : 40 < n
    · have i1 : 40 < (n : Int) := by omega
      go_wp2_with fail
      go_ret
      exact ⟨rfl, Below.refl _ _⟩
    have i1 : ¬ 40 < (n : Int) := by omega
    by_cases g2 : k < 1
    · go_wp2_with fail
      go_ret
      exact ⟨rfl, Below.refl _ _⟩
    by_cases g3 : 6 < k
    · go_wp2_with fail
      go_ret
      exact ⟨rfl, Below.refl _ _⟩
    go_wp2_with fail
    refine KB.out.mono ?_
    rintro e w2 ⟨hb, h⟩
    rcases h.symm with ⟨h, _⟩ | ⟨_, _, P, c, fs, v, rfl, hr, hf128, hopt⟩
    · exact absurd ⟨hQ.out, by omega⟩ h
    obtain ⟨hgd, hco⟩ := optP_co hopt hQ.out
    have E2 := Lib.hid hb
    have KC2 := Lib.hid (KC.out h128 w2 hb P c fs (by omega) hr)
    have HRF2 := Lib.hid hr
    have HOPT := Lib.hid hopt
    have HCO := Lib.hid hco
    have HGD := Lib.hid hgd
    have hmk : ¬ k < (fs.length : Int) := by have := hopt.2.1; omega
    clear hr hb KC KB hopt hco hgd g1
    go_wp2_with fail
    refine KC2.out.mono ?_
    rintro e w3 ⟨v2, er, rfl, hb, hy, _⟩
    obtain ⟨rfl, rfl⟩ := hy HGD.out
    have hv : v = coV a fs n fs.length := HCO.out
    rw [← hv]
    have E3 := Lib.hid (E2.out.trans (hb.mono E2.out.size))
    have HRF := Lib.hid (HRF2.out.kept hb)
    obtain ⟨m, hm⟩ : ∃ m, fs.length = m := ⟨_, rfl⟩
    have HM := Lib.hid hm
    rw [hm] at hmk ⊢
    have HV := Lib.hid hv
    have hm128 : m ≤ 128 := by omega
    clear hb hy hv hm KC2 HRF2 E2 hf128
    go_wp2_with fail
    go_loopg [10] m (fun gh iv wr => ∃ i : Nat, i ≤ m ∧ gh = m - i ∧ iv = .int .i64 i ∧ Hid (RdI wr .i64 P fs) ∧ Hid (Below w.heap.size w wr))
    case atStart => exact ⟨0, Nat.zero_le _, rfl, rfl, HRF, E3⟩
    case round =>
      clear HRF E3
      obtain ⟨i, hi, rfl, rfl, HRF, EE⟩ := hrel
      rename World => w4
      by_cases him : i < m
      · have hii : (i : Int) < (m : Int) := by omega
        obtain ⟨bp, op, rfl, hlt, _⟩ := rdI_row HRF.out (by have := HM.out; omega)
        by_cases hi0 : i = 0
        · have HI0 := Lib.hid hi0
          have hii0 : ¬ (0 : Int) < (i : Int) := by omega
          have dd0 : decide (0 < i) = false := decide_eq_false (by omega)
          have dd1 : decide ((0 : Int) < (i : Int)) = false := decide_eq_false hii0
          clear hi0
          have HRFD : Hid (RdI w4.drew .i64 (some ⟨bp, op, none⟩) fs) := Lib.hid HRF.out
          go_wp2_with fail
          have sK : ∀ X, (fun _ : World => True) X := fun _ => True.intro
          have E0 := Lib.hid (EE.out.drew)
          refine wp_region_held_drew (S := (fun _ : World => True)) (by kernel_rfl) True.intro (fun hHeld => ?_)
          clear hHeld
          refine wpAnyH_take (i := 0) (v := ?_) rfl (by kernel_rfl) (by kernel_rfl) (by kernel_rfl) (fun _ _ _ h => h) (Or.inl ⟨by rfl, ?_⟩) True.intro ?_
          rotate_left
          · (intro wS hSw; (try dsimp only at hSw); go_simp; try with_reducible rfl)
          simp only [Act.put, List.getElem_toArray, List.getElem_cons_zero, List.getElem_cons_succ, List.setIfInBounds_toArray, List.set_cons_zero, List.set_cons_succ]
          refine wpAnyH_take (i := 1) (v := ?_) rfl (by kernel_rfl) (by kernel_rfl) (by kernel_rfl) (fun _ _ _ h => h) (Or.inl ⟨by rfl, ?_⟩) True.intro ?_
          rotate_left
          · (intro wS hSw; (try dsimp only at hSw); go_simp; try with_reducible rfl)
          simp only [Act.put, List.getElem_toArray, List.getElem_cons_zero, List.getElem_cons_succ, List.setIfInBounds_toArray, List.set_cons_zero, List.set_cons_succ]
          refine wpAnyH_take (i := 2) (v := ?_) rfl (by kernel_rfl) (by kernel_rfl) (by kernel_rfl) (fun _ _ _ h => h) (Or.inl ⟨by rfl, ?_⟩) True.intro ?_
          rotate_left
          · (intro wS hSw; (try dsimp only at hSw); go_simp; try with_reducible rfl)
          simp only [Act.put, List.getElem_toArray, List.getElem_cons_zero, List.getElem_cons_succ, List.setIfInBounds_toArray, List.set_cons_zero, List.set_cons_succ]
          refine wpAnyH_take (i := 3) (v := undef) rfl (by kernel_rfl) (by kernel_rfl) (by kernel_rfl) (fun _ _ _ h => h) (Or.inr ⟨by kernel_rfl, rfl⟩) True.intro ?_
          simp only [Act.put, List.getElem_toArray, List.getElem_cons_zero, List.getElem_cons_succ, List.setIfInBounds_toArray, List.set_cons_zero, List.set_cons_succ]
          refine wpAnyH_take (i := 4) (v := undef) rfl (by kernel_rfl) (by kernel_rfl) (by kernel_rfl) (fun _ _ _ h => h) (Or.inr ⟨by kernel_rfl, rfl⟩) True.intro ?_
          simp only [Act.put, List.getElem_toArray, List.getElem_cons_zero, List.getElem_cons_succ, List.setIfInBounds_toArray, List.set_cons_zero, List.set_cons_succ]
          refine wpAnyH_take (i := 5) (v := undef) rfl (by kernel_rfl) (by kernel_rfl) (by kernel_rfl) (fun _ _ _ h => h) (Or.inr ⟨by kernel_rfl, rfl⟩) True.intro ?_
          simp only [Act.put, List.getElem_toArray, List.getElem_cons_zero, List.getElem_cons_succ, List.setIfInBounds_toArray, List.set_cons_zero, List.set_cons_succ]
          refine wpAnyH_take (i := 6) (v := undef) rfl (by kernel_rfl) (by kernel_rfl) (by kernel_rfl) (fun _ _ _ h => h) (Or.inr ⟨by kernel_rfl, rfl⟩) True.intro ?_
          simp only [Act.put, List.getElem_toArray, List.getElem_cons_zero, List.getElem_cons_succ, List.setIfInBounds_toArray, List.set_cons_zero, List.set_cons_succ]
          refine wpAnyH_take (i := 7) (v := undef) rfl (by kernel_rfl) (by kernel_rfl) (by kernel_rfl) (fun _ _ _ h => h) (Or.inr ⟨by kernel_rfl, rfl⟩) True.intro ?_
          simp only [Act.put, List.getElem_toArray, List.getElem_cons_zero, List.getElem_cons_succ, List.setIfInBounds_toArray, List.set_cons_zero, List.set_cons_succ]
          refine wpAnyH_take (i := 8) (v := undef) rfl (by kernel_rfl) (by kernel_rfl) (by kernel_rfl) (fun _ _ _ h => h) (Or.inr ⟨by kernel_rfl, rfl⟩) True.intro ?_
          simp only [Act.put, List.getElem_toArray, List.getElem_cons_zero, List.getElem_cons_succ, List.setIfInBounds_toArray, List.set_cons_zero, List.set_cons_succ]
          refine wpAnyH_take (i := 9) (v := undef) rfl (by kernel_rfl) (by kernel_rfl) (by kernel_rfl) (fun _ _ _ h => h) (Or.inr ⟨by kernel_rfl, rfl⟩) True.intro ?_
          simp only [Act.put, List.getElem_toArray, List.getElem_cons_zero, List.getElem_cons_succ, List.setIfInBounds_toArray, List.set_cons_zero, List.set_cons_succ]
          refine wpAnyH_take (i := 10) (v := undef) rfl (by kernel_rfl) (by kernel_rfl) (by kernel_rfl) (fun _ _ _ h => h) (Or.inr ⟨by kernel_rfl, rfl⟩) True.intro ?_
          simp only [Act.put, List.getElem_toArray, List.getElem_cons_zero, List.getElem_cons_succ, List.setIfInBounds_toArray, List.set_cons_zero, List.set_cons_succ]
          refine wpAnyH_take (i := 11) (v := undef) rfl (by kernel_rfl) (by kernel_rfl) (by kernel_rfl) (fun _ _ _ h => h) (Or.inr ⟨by kernel_rfl, rfl⟩) True.intro ?_
          simp only [Act.put, List.getElem_toArray, List.getElem_cons_zero, List.getElem_cons_succ, List.setIfInBounds_toArray, List.set_cons_zero, List.set_cons_succ]
          refine wpAnyH_take (i := 12) (v := undef) rfl (by kernel_rfl) (by kernel_rfl) (by kernel_rfl) (fun _ _ _ h => h) (Or.inr ⟨by kernel_rfl, rfl⟩) True.intro ?_
          simp only [Act.put, List.getElem_toArray, List.getElem_cons_zero, List.getElem_cons_succ, List.setIfInBounds_toArray, List.set_cons_zero, List.set_cons_succ]
          refine wpAnyH_take (i := 13) (v := ?_) rfl (by kernel_rfl) (by kernel_rfl) (by kernel_rfl) (fun _ _ _ h => h) (Or.inl ⟨by rfl, ?_⟩) True.intro ?_
          rotate_left
          · (intro wS hSw; (try dsimp only at hSw); go_simp; try with_reducible rfl)
          simp only [Act.put, List.getElem_toArray, List.getElem_cons_zero, List.getElem_cons_succ, List.setIfInBounds_toArray, List.set_cons_zero, List.set_cons_succ]
          refine wpAnyH_done (by kernel_rfl) ?_ _
          have EE := E0; clear E0
          clear HRF
          have HRF := HRFD
          clear HRFD
          go_wp2_with fail
          go_loopg [11] 3 (fun gh dv wr => ∃ d : Int, -1 ≤ d ∧ d ≤ 2 ∧ gh = (2 - d).toNat ∧ dv = .int .i64 d ∧ Hid (RdI wr .i64 (some ⟨bp, op, none⟩) fs) ∧ Hid (Below w.heap.size w wr))
          case atStart => exact ⟨-1, by omega, by omega, rfl, rfl, HRF, EE⟩
          case round =>
            clear HRF EE
            obtain ⟨d, hd1, hd2, rfl, rfl, HRF, EE⟩ := hrel
            rename World => w6
            by_cases hd : d ≤ 1
            · have KCL := Lib.hid (clone_at (some ⟨bp, op, none⟩) c m fs w6 HM.out (by omega) (by omega) HRF.out)
              go_wp2_with fail
              refine KCL.out.mono ?_
              rintro e w7 ⟨g, cap, rfl, hown, hb⟩
              have hmem : ∀ s, s ∈ fs → 0 ≤ s ∧ s < 1000 := fun s hs => by have := HOPT.out.2.2.2.1 s hs; omega
              have hx := hmem _ (zat_mem (show i < fs.length by have := HM.out; omega))
              have c0 : w7.cell? ⟨g, i, none⟩ = some (.int .i64 (zat fs i)) := by
                rw [hown.cellAt i (by omega), List.getElem?_map]
                unfold zat
                rw [List.getD_eq_getElem?_getD, List.getElem?_eq_getElem (show i < fs.length by have := HM.out; omega)]; rfl
              have f0 : w7.frozen? ⟨g, i, none⟩ = false := hown.frozenAt _
              obtain ⟨x, hxe⟩ : ∃ x, zat fs i = x := ⟨_, rfl⟩
              rw [hxe] at c0 hx
              obtain ⟨u, hu⟩ : ∃ u, x + d = u := ⟨_, rfl⟩
              have q1 : IntKind.i64.wrap (x + d) = u := by rw [hu]; exact IntWalk.i64_in _ (by omega)
              have q2 : wrap64 (x + d) = u := by rw [hu]; exact IntWalk.wrap64_in _ (by omega)
              have HR8 := Lib.hid (set_rd (u := u) HM.out hown him hmem (by omega))
              have hgw : w6.heap.size ≤ g := (hown.lt g rfl).1
              have b8 : Below w6.heap.size w6 (w7.setCell ⟨g, i, none⟩ (.int .i64 u)) := hb.setCell (p := ⟨g, i, none⟩) hgw _
              have E8 := Lib.hid (EE.out.trans (b8.mono EE.out.size))
              have HRF8 := Lib.hid (HRF.out.kept b8)
              have hlen : (fs.set i u).length = m := by rw [List.length_set, HM.out]
              have KD8 := Lib.hid (KD.out h128 _ E8.out _ cap m _ hlen (by omega) HR8.out)
              have HLB : Hid (∀ v2, GdP a (fs.set i u) n m → v2 = coV a (fs.set i u) n m → ¬ v2 < v) := Lib.hid (fun v2 hg h => by
                rw [h, coV_sm hlen hg.2.1]
                have := HOPT.out.2.2.2.2.2.2 (fs.set i u) (fun e => by have := hg.2.1; rw [e] at hlen; simp at hlen; omega) (by rw [hlen]; omega)
                omega)
              clear hown hb hmem hx hxe hu HR8 hgw b8 EE HRF hlen KCL
              go_wp2_with fail
              clear c0 f0 q1 q2
              refine KD8.out.mono ?_
              rintro e w8 ⟨v2, ok, rfl, hb, hy, hno⟩
              have E9 := Lib.hid (E8.out.trans (hb.mono E8.out.size))
              have HRF9 := Lib.hid (HRF8.out.kept hb)
              have HC : (ok = false) ∨ (ok = true ∧ ¬ v2 < v) := by
                by_cases g : GdP a (fs.set i u) n m
                · obtain ⟨q1, q2⟩ := hy g
                  exact Or.inr ⟨q2, by have := HLB.out v2 g q1; omega⟩
                · exact Or.inl (hno g).2
              have q5 : IntKind.i64.wrap (d + 1) = d + 1 := IntWalk.i64_in _ (by omega)
              have q6 : wrap64 (d + 1) = d + 1 := IntWalk.wrap64_in _ (by omega)
              have HD := Lib.hid (And.intro hd1 hd)
              clear hb hy hno E8 HRF8 KD8 HLB hd1 hd2
              rcases HC with rfl | ⟨rfl, hlt2⟩
              · go_wp2_with fail
                go_roundg (2 - (d + 1)).toNat
                case measure => have := HD.out; clear q5 q6; omega
                case rel => exact ⟨d + 1, by have := HD.out; clear q5 q6; omega, by have := HD.out; clear q5 q6; omega, rfl, rfl, HRF9, E9⟩
              · go_wp2_with fail
                go_roundg (2 - (d + 1)).toNat
                case measure => have := HD.out; clear q5 q6; omega
                case rel => exact ⟨d + 1, by have := HD.out; clear q5 q6; omega, by have := HD.out; clear q5 q6; omega, rfl, rfl, HRF9, E9⟩
            · go_wp2_with fail
              go_roundg (m - (i + 1))
              case measure => omega
              case rel => exact ⟨i + 1, by omega, rfl, by go_num, HRF, EE⟩
        · have hii0 : (0 : Int) < (i : Int) := by omega
          have hnn : 0 < i := by omega
          have dd0 : decide (0 < i) = true := decide_eq_true hnn
          have dd1 : decide ((0 : Int) < (i : Int)) = true := decide_eq_true hii0
          obtain ⟨p, hp⟩ : ∃ p, i - 1 = p := ⟨_, rfl⟩
          have q1 : IntKind.i64.wrap ((i : Int) - 1) = (p : Int) := by rw [IntWalk.i64_in _ (by omega)]; omega
          have q2 : wrap64 ((i : Int) - 1) = (p : Int) := by rw [IntWalk.wrap64_in _ (by omega)]; omega
          have hpm : (p : Int) < (m : Int) := by omega
          have c0 : w4.cell? ⟨bp, op + i, none⟩ = some (.int .i64 (zat fs i)) := at_zat HRF.out HM.out him
          have c1 : w4.cell? ⟨bp, op + p, none⟩ = some (.int .i64 (zat fs p)) := at_zat HRF.out HM.out (by omega)
          have hris := rise_zat HOPT.out.2.2.1 (p := p) (i := i) (by omega) (by have := HM.out; omega)
          obtain ⟨y1, hy1⟩ : ∃ y, zat fs i = y := ⟨_, rfl⟩
          obtain ⟨y0, hy0⟩ : ∃ y, zat fs p = y := ⟨_, rfl⟩
          rw [hy1] at c0 hris; rw [hy0] at c1 hris
          have hle : ¬ y1 ≤ y0 := by omega
          have dle : decide (y1 ≤ y0) = false := decide_eq_false hle
          have HX := Lib.hid (at1 c0)
          have HY := Lib.hid (at1 c1)
          clear c0 c1 hris hy1 hy0 hp
          have HRFD : Hid (RdI w4.drew .i64 (some ⟨bp, op, none⟩) fs) := Lib.hid HRF.out
          have kX0 : w4.cell? ⟨bp, op + i, none⟩ = some (.int .i64 y1) := HX.out 0 _ rfl
          have kY0 : w4.cell? ⟨bp, op + p, none⟩ = some (.int .i64 y0) := HY.out 0 _ rfl
          go_wp2_with fail
          have sK : ∀ X, At X bp (op + i) #[.int .i64 y1] → At X bp (op + p) #[.int .i64 y0] → (fun X => X.cell? ⟨bp, op + i, none⟩ = some (.int .i64 y1) ∧ X.cell? ⟨bp, op + p, none⟩ = some (.int .i64 y0)) X := fun X hX hY => ⟨hX 0 _ rfl, hY 0 _ rfl⟩
          have LX0 := Lib.hid (HX.out.drew)
          have LY0 := Lib.hid (HY.out.drew)
          have E0 := Lib.hid (EE.out.drew)
          clear kX0 kY0
          refine wp_region_held_drew (S := (fun X => X.cell? ⟨bp, op + i, none⟩ = some (.int .i64 y1) ∧ X.cell? ⟨bp, op + p, none⟩ = some (.int .i64 y0))) (by kernel_rfl) (sK _ LX0.out LY0.out) (fun hHeld => ?_)
          clear hHeld
          refine wpAnyH_take (i := 0) (v := ?_) rfl (by kernel_rfl) (by kernel_rfl) (by kernel_rfl) (fun _ _ _ h => h) (Or.inl ⟨by rfl, ?_⟩) (sK _ LX0.out LY0.out) ?_
          rotate_left
          · (intro wS hSw; (try dsimp only at hSw); go_simp; try with_reducible rfl)
          simp only [Act.put, List.getElem_toArray, List.getElem_cons_zero, List.getElem_cons_succ, List.setIfInBounds_toArray, List.set_cons_zero, List.set_cons_succ]
          refine wpAnyH_take (i := 1) (v := ?_) rfl (by kernel_rfl) (by kernel_rfl) (by kernel_rfl) (fun _ _ _ h => h) (Or.inl ⟨by rfl, ?_⟩) (sK _ LX0.out LY0.out) ?_
          rotate_left
          · (intro wS hSw; (try dsimp only at hSw); go_simp; try with_reducible rfl)
          simp only [Act.put, List.getElem_toArray, List.getElem_cons_zero, List.getElem_cons_succ, List.setIfInBounds_toArray, List.set_cons_zero, List.set_cons_succ]
          refine wpAnyH_take (i := 2) (v := ?_) rfl (by kernel_rfl) (by kernel_rfl) (by kernel_rfl) (fun _ _ _ h => h) (Or.inl ⟨by rfl, ?_⟩) (sK _ LX0.out LY0.out) ?_
          rotate_left
          · (intro wS hSw; (try dsimp only at hSw); go_simp; try with_reducible rfl)
          simp only [Act.put, List.getElem_toArray, List.getElem_cons_zero, List.getElem_cons_succ, List.setIfInBounds_toArray, List.set_cons_zero, List.set_cons_succ]
          refine wpAnyH_take (i := 3) (v := ?_) rfl (by kernel_rfl) (by kernel_rfl) (by kernel_rfl) (fun _ _ _ h => h) (Or.inl ⟨by rfl, ?_⟩) (sK _ LX0.out LY0.out) ?_
          rotate_left
          · (intro wS hSw; (try dsimp only at hSw); go_simp; try with_reducible rfl)
          simp only [Act.put, List.getElem_toArray, List.getElem_cons_zero, List.getElem_cons_succ, List.setIfInBounds_toArray, List.set_cons_zero, List.set_cons_succ]
          refine wpAnyH_take (i := 4) (v := ?_) rfl (by kernel_rfl) (by kernel_rfl) (by kernel_rfl) (fun _ _ _ h => h) (Or.inl ⟨by rfl, ?_⟩) (sK _ LX0.out LY0.out) ?_
          rotate_left
          · (intro wS hSw; (try dsimp only at hSw); go_simp; try with_reducible rfl)
          simp only [Act.put, List.getElem_toArray, List.getElem_cons_zero, List.getElem_cons_succ, List.setIfInBounds_toArray, List.set_cons_zero, List.set_cons_succ]
          refine wpAnyH_take (i := 5) (v := ?_) rfl (by kernel_rfl) (by kernel_rfl) (by kernel_rfl) (fun _ _ _ h => h) (Or.inl ⟨by rfl, ?_⟩) (sK _ LX0.out LY0.out) ?_
          rotate_left
          · (intro wS hSw; (try dsimp only at hSw); go_simp; try with_reducible rfl)
          simp only [Act.put, List.getElem_toArray, List.getElem_cons_zero, List.getElem_cons_succ, List.setIfInBounds_toArray, List.set_cons_zero, List.set_cons_succ]
          refine wpAnyH_take (i := 6) (v := ?_) rfl (by kernel_rfl) (by kernel_rfl) (by kernel_rfl) (fun _ _ _ h => h) (Or.inl ⟨by rfl, ?_⟩) (sK _ LX0.out LY0.out) ?_
          rotate_left
          · (intro wS hSw; (try dsimp only at hSw); go_simp; try with_reducible rfl)
          simp only [Act.put, List.getElem_toArray, List.getElem_cons_zero, List.getElem_cons_succ, List.setIfInBounds_toArray, List.set_cons_zero, List.set_cons_succ]
          refine wpAnyH_take (i := 7) (v := ?_) rfl (by kernel_rfl) (by kernel_rfl) (by kernel_rfl) (fun _ _ _ h => h) (Or.inl ⟨by rfl, ?_⟩) (sK _ LX0.out LY0.out) ?_
          rotate_left
          · (intro wS hSw; (try dsimp only at hSw); go_simp; try with_reducible rfl)
          simp only [Act.put, List.getElem_toArray, List.getElem_cons_zero, List.getElem_cons_succ, List.setIfInBounds_toArray, List.set_cons_zero, List.set_cons_succ]
          refine wpAnyH_take (i := 8) (v := ?_) rfl (by kernel_rfl) (by kernel_rfl) (by kernel_rfl) (fun _ _ _ h => h) (Or.inl ⟨by rfl, ?_⟩) (sK _ LX0.out LY0.out) ?_
          rotate_left
          · (intro wS hSw; (try dsimp only at hSw); go_simp; try with_reducible rfl)
          simp only [Act.put, List.getElem_toArray, List.getElem_cons_zero, List.getElem_cons_succ, List.setIfInBounds_toArray, List.set_cons_zero, List.set_cons_succ]
          refine wpAnyH_take (i := 9) (v := ?_) rfl (by kernel_rfl) (by kernel_rfl) (by kernel_rfl) (fun _ _ _ h => h) (Or.inl ⟨by rfl, ?_⟩) (sK _ LX0.out LY0.out) ?_
          rotate_left
          · (intro wS hSw; (try dsimp only at hSw); go_simp; try with_reducible rfl)
          simp only [Act.put, List.getElem_toArray, List.getElem_cons_zero, List.getElem_cons_succ, List.setIfInBounds_toArray, List.set_cons_zero, List.set_cons_succ]
          refine wpAnyH_take (i := 10) (v := ?_) rfl (by kernel_rfl) (by kernel_rfl) (by kernel_rfl) (fun _ _ _ h => h) (Or.inl ⟨by rfl, ?_⟩) (sK _ LX0.out LY0.out) ?_
          rotate_left
          · (intro wS hSw; (try dsimp only at hSw); go_simp; try with_reducible rfl)
          simp only [Act.put, List.getElem_toArray, List.getElem_cons_zero, List.getElem_cons_succ, List.setIfInBounds_toArray, List.set_cons_zero, List.set_cons_succ]
          refine wpAnyH_take (i := 11) (v := ?_) rfl (by kernel_rfl) (by kernel_rfl) (by kernel_rfl) (fun _ _ _ h => h) (Or.inl ⟨by rfl, ?_⟩) (sK _ LX0.out LY0.out) ?_
          rotate_left
          · (intro wS hSw; (try dsimp only at hSw); go_simp; try with_reducible rfl)
          simp only [Act.put, List.getElem_toArray, List.getElem_cons_zero, List.getElem_cons_succ, List.setIfInBounds_toArray, List.set_cons_zero, List.set_cons_succ]
          refine wpAnyH_take (i := 12) (v := ?_) rfl (by kernel_rfl) (by kernel_rfl) (by kernel_rfl) (fun _ _ _ h => h) (Or.inl ⟨by rfl, ?_⟩) (sK _ LX0.out LY0.out) ?_
          rotate_left
          · (intro wS hSw; (try dsimp only at hSw); go_simp; try with_reducible rfl)
          simp only [Act.put, List.getElem_toArray, List.getElem_cons_zero, List.getElem_cons_succ, List.setIfInBounds_toArray, List.set_cons_zero, List.set_cons_succ]
          refine wpAnyH_take (i := 13) (v := ?_) rfl (by kernel_rfl) (by kernel_rfl) (by kernel_rfl) (fun _ _ _ h => h) (Or.inl ⟨by rfl, ?_⟩) (sK _ LX0.out LY0.out) ?_
          rotate_left
          · (intro wS hSw; (try dsimp only at hSw); go_simp; try with_reducible rfl)
          simp only [Act.put, List.getElem_toArray, List.getElem_cons_zero, List.getElem_cons_succ, List.setIfInBounds_toArray, List.set_cons_zero, List.set_cons_succ]
          refine wpAnyH_done (by kernel_rfl) ?_ _
          have EE := E0; clear E0
          clear q1 q2 dle hle hpm
          clear HRF
          have HRF := HRFD
          clear HRFD
          go_wp2_with fail
          go_loopg [11] 3 (fun gh dv wr => ∃ d : Int, -1 ≤ d ∧ d ≤ 2 ∧ gh = (2 - d).toNat ∧ dv = .int .i64 d ∧ Hid (RdI wr .i64 (some ⟨bp, op, none⟩) fs) ∧ Hid (Below w.heap.size w wr))
          case atStart => exact ⟨-1, by omega, by omega, rfl, rfl, HRF, EE⟩
          case round =>
            clear HRF EE
            obtain ⟨d, hd1, hd2, rfl, rfl, HRF, EE⟩ := hrel
            rename World => w6
            by_cases hd : d ≤ 1
            · have KCL := Lib.hid (clone_at (some ⟨bp, op, none⟩) c m fs w6 HM.out (by omega) (by omega) HRF.out)
              go_wp2_with fail
              refine KCL.out.mono ?_
              rintro e w7 ⟨g, cap, rfl, hown, hb⟩
              have hmem : ∀ s, s ∈ fs → 0 ≤ s ∧ s < 1000 := fun s hs => by have := HOPT.out.2.2.2.1 s hs; omega
              have hx := hmem _ (zat_mem (show i < fs.length by have := HM.out; omega))
              have c0 : w7.cell? ⟨g, i, none⟩ = some (.int .i64 (zat fs i)) := by
                rw [hown.cellAt i (by omega), List.getElem?_map]
                unfold zat
                rw [List.getD_eq_getElem?_getD, List.getElem?_eq_getElem (show i < fs.length by have := HM.out; omega)]; rfl
              have f0 : w7.frozen? ⟨g, i, none⟩ = false := hown.frozenAt _
              obtain ⟨x, hxe⟩ : ∃ x, zat fs i = x := ⟨_, rfl⟩
              rw [hxe] at c0 hx
              obtain ⟨u, hu⟩ : ∃ u, x + d = u := ⟨_, rfl⟩
              have q1 : IntKind.i64.wrap (x + d) = u := by rw [hu]; exact IntWalk.i64_in _ (by omega)
              have q2 : wrap64 (x + d) = u := by rw [hu]; exact IntWalk.wrap64_in _ (by omega)
              have HR8 := Lib.hid (set_rd (u := u) HM.out hown him hmem (by omega))
              have hgw : w6.heap.size ≤ g := (hown.lt g rfl).1
              have b8 : Below w6.heap.size w6 (w7.setCell ⟨g, i, none⟩ (.int .i64 u)) := hb.setCell (p := ⟨g, i, none⟩) hgw _
              have E8 := Lib.hid (EE.out.trans (b8.mono EE.out.size))
              have HRF8 := Lib.hid (HRF.out.kept b8)
              have hlen : (fs.set i u).length = m := by rw [List.length_set, HM.out]
              have KD8 := Lib.hid (KD.out h128 _ E8.out _ cap m _ hlen (by omega) HR8.out)
              have HLB : Hid (∀ v2, GdP a (fs.set i u) n m → v2 = coV a (fs.set i u) n m → ¬ v2 < v) := Lib.hid (fun v2 hg h => by
                rw [h, coV_sm hlen hg.2.1]
                have := HOPT.out.2.2.2.2.2.2 (fs.set i u) (fun e => by have := hg.2.1; rw [e] at hlen; simp at hlen; omega) (by rw [hlen]; omega)
                omega)
              clear hown hb hmem hx hxe hu HR8 hgw b8 EE HRF hlen KCL
              go_wp2_with fail
              clear c0 f0 q1 q2
              refine KD8.out.mono ?_
              rintro e w8 ⟨v2, ok, rfl, hb, hy, hno⟩
              have E9 := Lib.hid (E8.out.trans (hb.mono E8.out.size))
              have HRF9 := Lib.hid (HRF8.out.kept hb)
              have HC : (ok = false) ∨ (ok = true ∧ ¬ v2 < v) := by
                by_cases g : GdP a (fs.set i u) n m
                · obtain ⟨q1, q2⟩ := hy g
                  exact Or.inr ⟨q2, by have := HLB.out v2 g q1; omega⟩
                · exact Or.inl (hno g).2
              have q5 : IntKind.i64.wrap (d + 1) = d + 1 := IntWalk.i64_in _ (by omega)
              have q6 : wrap64 (d + 1) = d + 1 := IntWalk.wrap64_in _ (by omega)
              have HD := Lib.hid (And.intro hd1 hd)
              clear hb hy hno E8 HRF8 KD8 HLB hd1 hd2
              rcases HC with rfl | ⟨rfl, hlt2⟩
              · go_wp2_with fail
                go_roundg (2 - (d + 1)).toNat
                case measure => have := HD.out; clear q5 q6; omega
                case rel => exact ⟨d + 1, by have := HD.out; clear q5 q6; omega, by have := HD.out; clear q5 q6; omega, rfl, rfl, HRF9, E9⟩
              · go_wp2_with fail
                go_roundg (2 - (d + 1)).toNat
                case measure => have := HD.out; clear q5 q6; omega
                case rel => exact ⟨d + 1, by have := HD.out; clear q5 q6; omega, by have := HD.out; clear q5 q6; omega, rfl, rfl, HRF9, E9⟩
            · go_wp2_with fail
              go_roundg (m - (i + 1))
              case measure => omega
              case rel => exact ⟨i + 1, by omega, rfl, by go_num, HRF, EE⟩
      · obtain rfl : i = m := by omega
        have KA := Lib.hid (alive61 w4)
        clear KD HRF
        go_wp2_with fail
        refine KA.out.mono ?_
        rintro e w5 ⟨rfl, hb⟩
        go_wp2_with fail
        go_ret
        exact ⟨rfl, EE.out.trans (hb.mono EE.out.size)⟩

end Go.Proofs.Ytloplambpfjioaa.parkFloors
