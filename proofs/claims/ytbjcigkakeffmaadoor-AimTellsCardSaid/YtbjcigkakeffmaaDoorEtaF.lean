/- The document's eta: in how many ticks a car is there. -/
import Derived.Test.YtbjcigkakeffmaaDoorRows
import Derived.Test.YtbjcigkakeffmaaDoorKitM
import Derived.Test.YtbjcigkakeffmaaDoorCmp
import Derived.Test.YtbjcigkakeffmaaDoorPlaceA
import Derived.Test.YtbjcigkakeffmaaDoorVetA
import Derived.Test.YtbjcigkakeffmaaDoorVetB
import Derived.Test.YtbjcigkakeffmaaDoorNearMath
import Derived.Test.YtbjcigkakeffmaaDoorNearA
import Derived.Test.YtbjcigkakeffmaaDoorNearB
import Derived.Test.YtbjcigkakeffmaaDoorNearC
import Derived.Test.YtbjcigkakeffmaaDoorNearG
import Derived.Test.YtbjcigkakeffmaaDoorNearI
import Derived.Test.YtbjcigkakeffmaaDoorBitM
import Derived.Test.YtbjcigkakeffmaaDoorBitsL
import Derived.Test.YtbjcigkakeffmaaDoorBitsN
import Derived.Test.YtbjcigkakeffmaaDoorBitsT
import Derived.Test.YtbjcigkakeffmaaDoorBitsU
import Derived.Test.YtbjcigkakeffmaaDoorBitsV
import Derived.Test.YtbjcigkakeffmaaDoorBitsX
import Derived.Test.YtbjcigkakeffmaaDoorWantA
import Derived.Test.YtbjcigkakeffmaaDoorWantB
import Derived.Test.YtbjcigkakeffmaaDoorWantC
import Derived.Test.YtbjcigkakeffmaaDoorEtaA
import Derived.Test.YtbjcigkakeffmaaDoorEtaB
import Derived.Test.YtbjcigkakeffmaaDoorEtaMath
import Derived.Test.YtbjcigkakeffmaaDoorEtaC
import Derived.Test.YtbjcigkakeffmaaDoorEtaE
import Derived.WalkKit
import Derived.IntWalk
import Derived.Lib.Hide
import Derived.WalkSpells
import Derived.WalkLawsBesides
import Derived.Laws.CopyOwn
import Derived.Laws.MakeOwn
import Derived.Laws.OwnMore
import Derived.OwnWalk
import Derived.Deep.QuietTactic
import Derived.BigQuiet
import Derived.Deep.RegionHeld3
import Derived.Deep.LoopGhost
import Derived.BigRegion
import Derived.Deep.AppendLies
import Derived.Maps.AppendAt
import Derived.Below
namespace Go.Proofs.YtbjcigkakeffmaaDoor
open Go.RowKit
set_option linter.unusedSimpArgs false
set_option linter.unusedVariables false
def PRow (l : List Int) (g : Int) (k : Nat) (V : Value) (X0 wr : World) : Prop := wr.ownsRow X0.heap.size 3 1 V k ((plL l g k).map (Value.int .i64)) ∧ Below X0.heap.size X0 wr
theorem prow_push {l : List Int} {g : Int} {k : Nat} {X0 wr : World} {V : Value} {x : Int} (hx : zat l k * g = x) (h : wr.ownsRow X0.heap.size 3 1 V (k + 1) ((plL l g k).map (Value.int .i64) ++ [.int .i64 x])) (hb : Below X0.heap.size X0 wr) : PRow l g (k + 1) V X0 wr := by
  refine ⟨?_, hb⟩
  unfold plL; rw [rowL_succ, List.map_append]
  rw [← hx] at h
  exact h
theorem plL_len (l : List Int) (g : Int) (k : Nat) : (plL l g k).length = k := rowL_len _ _
theorem plL_mem {F : Nat → Bool} {g : Int} (h0 : 0 ≤ g) (h1 : g ≤ 16) : ∀ z, z ∈ (itL F 128).map (· * g) → 0 ≤ z ∧ z ≤ 2032 := fun z hz => by
  obtain ⟨y, hy, rfl⟩ := List.mem_map.1 hz
  obtain ⟨m, hm, _, rfl⟩ := (itL_mem F y 128).1 hy
  exact ⟨Int.mul_nonneg (by omega) h0, Int.mul_le_mul (show (m : Int) ≤ 127 by omega) h1 h0 (by omega)⟩
set_option maxRecDepth 100000 in
set_option maxHeartbeats 16000000 in
theorem rof34_any (s : Nat → Int) (A : Option Addr) (n c : Nat) (p d mo le : Int) (bw : Bool) (R : Value) (F : Nat → Bool) (fl dir q r : Int) (w : World) (hg : 1 ≤ s 1) (hg' : s 1 ≤ 16) (p0 : 0 ≤ p) (p1 : p ≤ 2048) (r0 : 0 ≤ r) (r1 : r < s 1) (e : p = q * s 1 + r) (m0 : 0 ≤ fl * s 1) (m1 : fl * s 1 ≤ 2048) (h4 : 1 ≤ s 4 ∧ s 4 ≤ 64) (h5 : 1 ≤ s 5 ∧ s 5 ≤ 64) (h6 : 1 ≤ s 6 ∧ s 6 ≤ 64) (h7 : 1 ≤ s 7 ∧ s 7 ≤ 64) (d0 : -1 ≤ d) (d1 : d ≤ 1) (o0 : 0 ≤ mo) (o1 : mo ≤ 4) (l0 : 0 ≤ le) (l1 : le ≤ 64) :
    Calls Tryd.prog 10 #[scnV s A n c, carV p d mo le bw R, setV F, .int .i64 fl, .int .i64 dir] w fun e w' => e = .returned (.int .i64 (eofV (doorV (s 7) (s 5) (s 6) mo le) p d (s 1) q r (s 4 + s 7 + s 5 + s 6) fl dir F)) ∧ Below w.heap.size w w' := by
  obtain ⟨i0, hi, hz0, hz1, hz2⟩ := info_parts mkInfo
  have hd : d = -1 ∨ d = 0 ∨ d = 1 := by omega
  have AM0 := at_list (f := fl) (g := s 1) hg hd F
  have BT0 := bt_places (p := p) (f := fl) hg r0 r1 e (itL F 128)
  have AL := on_list (p := p) hg r0 r1 e hd F
  have TN := tn_trn (p := p) hg r0 r1 e hd F
  have AW := fun (hd : d = -1 ∨ d = 1) => away_dir (m := fl * s 1) (p := p) hd
  have PM := plL_mem (F := F) (g := s 1) (by omega) hg'
  have OM := plL_mem (F := byF F (nxF q r (-d)) d) (g := s 1) (by omega) hg'
  have G00 : d = 0 → (itL (byF F (nxF q r (-d)) d) 128).length = 0 := fun h => by rw [h]; rw [by_zero]; rfl
  obtain ⟨m, hm⟩ : ∃ m, fl * s 1 = m := ⟨_, rfl⟩
  rw [hm] at m0 m1 AM0 BT0 AW
  have u0 := cmpI_bd m p
  have KF := fun w => rfar_b p m w p0 (by omega) (by omega) (by omega)
  have KO := fun w => rdoor_any s A n c p d mo le bw R w h5 h6 h7 o0 o1 l0 l1
  have DB := door_bd (mo := mo) h5 h6 h7 l0 l1
  have fb := far_bd (p := p) (m := m) p0 (by omega) (by omega) (by omega)
  have KI := fun w => items_any F w
  have hlen : (plL (itL F 128) (s 1) (itL F 128).length).length = (itL F 128).length := plL_len _ _ _
  have hcl := itL_len F 128
  have AL2 : ahA (plL (itL F 128) (s 1) (itL F 128).length) p d (itL F 128).length = ((itL (byF F (nxF q r (-d)) d) 128).map (· * s 1)) := by
    have h := ahA_all (plL (itL F 128) (s 1) (itL F 128).length) p d
    rw [hlen] at h
    rw [h, plL_all, AL]
  have AM2 : ahA (plL (itL F 128) (s 1) (itL F 128).length) m d (itL F 128).length = ((itL (byF F fl d) 128).map (· * s 1)) := by
    have h := ahA_all (plL (itL F 128) (s 1) (itL F 128).length) m d
    rw [hlen] at h
    rw [h, plL_all, AM0]
  have BT2 : btP p m (plL (itL F 128) (s 1) (itL F 128).length) = btP (nxF q r (-(cmpI m p))) fl (itL F 128) := by rw [plL_all, BT0]
  have KH := fun A' cc w hr => rah34_any A' cc (itL F 128).length (plL (itL F 128) (s 1) (itL F 128).length) p d w hlen hcl hr (fun z hz => by rw [plL_all] at hz; have := PM z hz; omega) p0 (by omega) hd
  have KH2 := fun A' cc w hr => rah34_any A' cc (itL F 128).length (plL (itL F 128) (s 1) (itL F 128).length) m d w hlen hcl hr (fun z hz => by rw [plL_all] at hz; have := PM z hz; omega) (by omega) (by omega) hd
  have KB := fun A' cc w hr => rbt34_any A' cc (itL F 128).length (plL (itL F 128) (s 1) (itL F 128).length) p m w hlen hcl hr
  rw [AL2] at KH
  rw [AM2] at KH2
  rw [BT2] at KB
  have E1 : (itL (byF F (nxF q r (-d)) d) 128).length = 0 ∨ (¬ cmpI m p = -d ∧ (dir = d ∨ (itL (byF F fl d) 128).length = 0)) → eofV (doorV (s 7) (s 5) (s 6) mo le) p d (s 1) q r (s 4 + s 7 + s 5 + s 6) fl dir F = (doorV (s 7) (s 5) (s 6) mo le) + farV p m + (s 4 + s 7 + s 5 + s 6) * (btP (nxF q r (-(cmpI m p))) fl (itL F 128) : Nat) := fun h => by
    unfold eofV; rw [hm, if_pos h]
  have E2 : ¬ ((itL (byF F (nxF q r (-d)) d) 128).length = 0 ∨ (¬ cmpI m p = -d ∧ (dir = d ∨ (itL (byF F fl d) 128).length = 0))) → cmpI m p = -d → eofV (doorV (s 7) (s 5) (s 6) mo le) p d (s 1) q r (s 4 + s 7 + s 5 + s 6) fl dir F = (doorV (s 7) (s 5) (s 6) mo le) + farV p (trn (itL (byF F (nxF q r (-d)) d) 128) d * s 1) + farV (trn (itL (byF F (nxF q r (-d)) d) 128) d * s 1) m + (s 4 + s 7 + s 5 + s 6) * (((itL (byF F (nxF q r (-d)) d) 128).length + btP (nxF q r (-(cmpI m p))) fl (itL F 128) : Nat) : Int) := fun h h2 => by
    unfold eofV; rw [hm, if_neg h, if_pos h2]
  have E3 : ¬ ((itL (byF F (nxF q r (-d)) d) 128).length = 0 ∨ (¬ cmpI m p = -d ∧ (dir = d ∨ (itL (byF F fl d) 128).length = 0))) → ¬ cmpI m p = -d → eofV (doorV (s 7) (s 5) (s 6) mo le) p d (s 1) q r (s 4 + s 7 + s 5 + s 6) fl dir F = (doorV (s 7) (s 5) (s 6) mo le) + farV p (trn (itL (byF F (nxF q r (-d)) d) 128) d * s 1) + farV (trn (itL (byF F (nxF q r (-d)) d) 128) d * s 1) m + (s 4 + s 7 + s 5 + s 6) * (((itL (byF F (nxF q r (-d)) d) 128).length + 0 : Nat) : Int) := fun h h2 => by
    unfold eofV; rw [hm, if_neg h, if_neg h2]
  have nl : btP (nxF q r (-(cmpI m p))) fl (itL F 128) ≤ 128 := Nat.le_trans (btP_le _ _ _) hcl
  have cl : (itL (byF F (nxF q r (-d)) d) 128).length ≤ 128 := itL_len _ 128
  have cl2 : (itL (byF F fl d) 128).length ≤ 128 := itL_len _ 128
  have PWF : ∀ i, i < (plL (itL F 128) (s 1) (itL F 128).length).length → (Lit.int .i64 (zat (plL (itL F 128) (s 1) (itL F 128).length) i)).wf = true := fun i hi => by
    have hz := zat_mem hi
    rw [plL_all] at hz
    have := PM _ hz
    rw [plL_all]
    exact WalkArith.wf_i64 (by omega)
  have ZB : ∀ i, i < (itL F 128).length → 0 ≤ zat (itL F 128) i * s 1 ∧ zat (itL F 128) i * s 1 ≤ 2032 := fun i hi => PM _ (by
    have := zat_mem hi
    exact List.mem_map.2 ⟨_, this, rfl⟩)
  rw [hlen] at PWF
  clear AM0 BT0 AL PM AL2 AM2 BT2 hd
  obtain ⟨RES, hRES⟩ : ∃ z, eofV (doorV (s 7) (s 5) (s 6) mo le) p d (s 1) q r (s 4 + s 7 + s 5 + s 6) fl dir F = z := ⟨_, rfl⟩
  rw [hRES] at E1 E2 E3 ⊢
  clear hRES
  obtain ⟨D, hD⟩ : ∃ z, (doorV (s 7) (s 5) (s 6) mo le) = z := ⟨_, rfl⟩
  rw [hD] at KO DB E1 E2 E3
  obtain ⟨X, hX⟩ : ∃ X, farV p m = X := ⟨_, rfl⟩
  rw [hX] at KF fb E1
  obtain ⟨u, hu⟩ : ∃ u, cmpI m p = u := ⟨_, rfl⟩
  rw [hu] at KB u0 E1 E2 E3 nl AW
  obtain ⟨N, hN⟩ : ∃ N, btP (nxF q r (-u)) fl (itL F 128) = N := ⟨_, rfl⟩
  rw [hN] at KB nl E1 E2
  obtain ⟨st, hst⟩ : ∃ st, s 4 + s 7 + s 5 + s 6 = st := ⟨_, rfl⟩
  have s0 : 4 ≤ st ∧ st ≤ 256 := by omega
  rw [hst] at E1 E2 E3
  obtain ⟨tr, htr⟩ : ∃ z, trn (itL (byF F (nxF q r (-d)) d) 128) d * s 1 = z := ⟨_, rfl⟩
  rw [htr] at TN E2 E3
  obtain ⟨cn, hcn⟩ : ∃ z, (itL (byF F (nxF q r (-d)) d) 128).length = z := ⟨_, rfl⟩
  obtain ⟨on, hon⟩ : ∃ z, ((itL (byF F (nxF q r (-d)) d) 128).map (· * s 1)) = z := ⟨_, rfl⟩
  have onl : on.length = cn := by rw [← hon, List.length_map, hcn]
  rw [hcn] at TN E1 E2 E3 cl G00
  rw [hon] at KH TN OM
  rw [onl] at KH
  obtain ⟨c2, hc2⟩ : ∃ z, (itL (byF F fl d) 128).length = z := ⟨_, rfl⟩
  obtain ⟨on2, hon2⟩ : ∃ z, ((itL (byF F fl d) 128).map (· * s 1)) = z := ⟨_, rfl⟩
  have onl2 : on2.length = c2 := by rw [← hon2, List.length_map, hc2]
  rw [hc2] at E1 E2 E3 cl2
  rw [hon2] at KH2
  rw [onl2] at KH2
  obtain ⟨l, hl⟩ : ∃ l, itL F 128 = l := ⟨_, rfl⟩
  rw [hl] at KI KH KH2 KB PWF ZB hlen hcl
  obtain ⟨NN, hNN⟩ : ∃ N, l.length = N := ⟨_, rfl⟩
  rw [hNN] at KI KH KH2 KB PWF ZB hlen hcl
  obtain ⟨gg, hgg⟩ : ∃ g, s 1 = g := ⟨_, rfl⟩
  rw [hgg] at KH KH2 KB PWF ZB hlen hm hg hg'
  have TB : ∀ k, 0 < cn → 0 ≤ tnA on p k ∧ tnA on p k ≤ 2032 := fun k h0 => by
    induction k with
    | zero => exact OM _ (zat_mem (by omega))
    | succ k ih =>
      show 0 ≤ (if farV (tnA on p k) p < farV (zat on k) p then zat on k else tnA on p k) ∧ (if farV (tnA on p k) p < farV (zat on k) p then zat on k else tnA on p k) ≤ 2032
      by_cases hk : k < on.length
      · have := OM _ (zat_mem hk)
        split <;> omega
      · have hz : zat on k = 0 := by unfold zat; rw [List.getD_eq_getElem?_getD, List.getElem?_eq_none (by omega)]; rfl
        rw [hz]
        split <;> omega
  have OB : ∀ k, k < cn → 0 ≤ zat on k ∧ zat on k ≤ 2032 := fun k h0 => OM _ (zat_mem (by omega))
  have OWF : ∀ k, k < cn → zat on k = zat on k := fun _ _ => rfl
  have hwd : IntKind.i64.wrap (-d) = -d := IntWalk.i64_in _ (by omega)
  have M0 : 0 ≤ st * (N : Int) := Int.mul_nonneg (by omega) (by omega)
  have M1 : st * (N : Int) ≤ 256 * 128 := Int.mul_le_mul (by omega) (by omega) (by omega) (by omega)
  have P0 : 0 ≤ st * ((cn + N : Nat) : Int) := Int.mul_nonneg (by omega) (by omega)
  have P1 : st * ((cn + N : Nat) : Int) ≤ 256 * 256 := Int.mul_le_mul (by omega) (by omega) (by omega) (by omega)
  have Q0 : 0 ≤ st * ((cn + 0 : Nat) : Int) := Int.mul_nonneg (by omega) (by omega)
  have Q1 : st * ((cn + 0 : Nat) : Int) ≤ 256 * 256 := Int.mul_le_mul (by omega) (by omega) (by omega) (by omega)
  have YB : -4096 ≤ (m - p) * d ∧ (m - p) * d ≤ 4096 := by rcases (show d = -1 ∨ d = 0 ∨ d = 1 by omega) with rfl | rfl | rfl <;> omega
  unfold setV scnV carV at *
  rw [hgg] at KO ⊢
  obtain ⟨s4, e4⟩ : ∃ z, s 4 = z := ⟨_, rfl⟩
  obtain ⟨s5, e5⟩ : ∃ z, s 5 = z := ⟨_, rfl⟩
  obtain ⟨s6, e6⟩ : ∃ z, s 6 = z := ⟨_, rfl⟩
  obtain ⟨s7, e7⟩ : ∃ z, s 7 = z := ⟨_, rfl⟩
  rw [e4] at h4 hst; rw [e5] at h5 hst; rw [e6] at h6 hst; rw [e7] at h7 hst
  rw [e4, e5, e6, e7] at KO ⊢
  obtain ⟨x, hx⟩ : ∃ x, wordX F = x := ⟨_, rfl⟩
  obtain ⟨y, hy⟩ : ∃ y, wordY F = y := ⟨_, rfl⟩
  rw [hx, hy] at KI ⊢
  have hs1 : IntKind.i64.wrap (s4 + s7) = s4 + s7 := IntWalk.i64_in _ (by omega)
  have hs2 : IntKind.i64.wrap (s4 + s7 + s5) = s4 + s7 + s5 := IntWalk.i64_in _ (by omega)
  have hs3 : IntKind.i64.wrap (s4 + s7 + s5 + s6) = st := by rw [hst]; exact IntWalk.i64_in _ (by omega)
  have hwm : IntKind.i64.wrap (fl * gg) = m := by rw [hm]; exact IntWalk.i64_in _ (by omega)
  have hy1 : IntKind.i64.wrap (m - p) = m - p := IntWalk.i64_in _ (by omega)
  have hy2 : IntKind.i64.wrap ((m - p) * d) = (m - p) * d := IntWalk.i64_in _ (by omega)
  have JF := Lib.hid KF; have JO := Lib.hid KO; have JB := Lib.hid KB; have JI := Lib.hid KI; have JH := Lib.hid KH; have JH2 := Lib.hid KH2
  have HE1 := Lib.hid E1; have HE2 := Lib.hid E2; have HE3 := Lib.hid E3; have HAW := Lib.hid AW; have HG0 := Lib.hid G00; have HTN := Lib.hid TN; have HTB := Lib.hid TB; have HOB := Lib.hid OB; have HPW := Lib.hid PWF; have HZB := Lib.hid ZB; have HLEN := Lib.hid hlen; have HONL := Lib.hid onl; have HNN := Lib.hid hNN
  have J1 := Lib.hid hs1; have J2 := Lib.hid hs2; have J3 := Lib.hid hs3; have J4 := Lib.hid hwm; have J5 := Lib.hid hy1; have J6 := Lib.hid hy2
  obtain ⟨fb0, fb1⟩ := fb
  obtain ⟨db0, db1⟩ := DB
  have HCL := Lib.hid hcl; have HC2 := Lib.hid cl2
  have hNI : (NN : Int) ≤ 128 := by omega
  clear e hs1 hs2 hs3 hwm hy1 hy2 hcl cl2 KF KO KB KI KH KH2 E1 E2 E3 AW G00 TN TB OB OM OWF PWF ZB hlen onl onl2 hNN hst hN hu hX hD hcn hon hc2 hon2 hl hgg e4 e5 e6 e7 hx hy htr h4 h5 h6 h7 hm
  go_enter Tryd.func10, Tryd.ntmps10
  go_wp2_with fail
  have BS := ((Blk.new w #[.int .i64 (s 0), .int .i64 gg, .int .i64 (s 2), .int .i64 (s 3), .int .i64 s4, .int .i64 s5, .int .i64 s6, .int .i64 s7, .slice A n c, .int .i64 (s 9), .int .i64 (s 10), .int .i64 (s 11), .int .i64 (s 12)] 25).alloc (.cells #[.int .i64 p, .int .i64 d, .int .i64 mo, .int .i64 le, .bool bw, R] 36)).alloc (.cells #[.int .u64 x, .int .u64 y] 40)
  have BC := (Blk.new (w.alloc (.cells #[.int .i64 (s 0), .int .i64 gg, .int .i64 (s 2), .int .i64 (s 3), .int .i64 s4, .int .i64 s5, .int .i64 s6, .int .i64 s7, .slice A n c, .int .i64 (s 9), .int .i64 (s 10), .int .i64 (s 11), .int .i64 (s 12)] 25)) #[.int .i64 p, .int .i64 d, .int .i64 mo, .int .i64 le, .bool bw, R] 36).alloc (.cells #[.int .u64 x, .int .u64 y] 40)
  rw [World.size_alloc] at BC
  have BT := Blk.new ((w.alloc (.cells #[.int .i64 (s 0), .int .i64 gg, .int .i64 (s 2), .int .i64 (s 3), .int .i64 s4, .int .i64 s5, .int .i64 s6, .int .i64 s7, .slice A n c, .int .i64 (s 9), .int .i64 (s 10), .int .i64 (s 11), .int .i64 (s 12)] 25)).alloc (.cells #[.int .i64 p, .int .i64 d, .int .i64 mo, .int .i64 le, .bool bw, R] 36)) #[.int .u64 x, .int .u64 y] 40
  rw [World.size_alloc, World.size_alloc] at BT
  have BE : Below w.heap.size w (((w.alloc (.cells #[.int .i64 (s 0), .int .i64 gg, .int .i64 (s 2), .int .i64 (s 3), .int .i64 s4, .int .i64 s5, .int .i64 s6, .int .i64 s7, .slice A n c, .int .i64 (s 9), .int .i64 (s 10), .int .i64 (s 11), .int .i64 (s 12)] 25)).alloc (.cells #[.int .i64 p, .int .i64 d, .int .i64 mo, .int .i64 le, .bool bw, R] 36)).alloc (.cells #[.int .u64 x, .int .u64 y] 40)) := (((Below.refl w.heap.size w).alloc (Nat.le_refl _) _).alloc (by simp <;> omega) _).alloc (by simp <;> omega) _
  obtain ⟨V0, hV0⟩ : ∃ V, (((w.alloc (.cells #[.int .i64 (s 0), .int .i64 gg, .int .i64 (s 2), .int .i64 (s 3), .int .i64 s4, .int .i64 s5, .int .i64 s6, .int .i64 s7, .slice A n c, .int .i64 (s 9), .int .i64 (s 10), .int .i64 (s 11), .int .i64 (s 12)] 25)).alloc (.cells #[.int .i64 p, .int .i64 d, .int .i64 mo, .int .i64 le, .bool bw, R] 36)).alloc (.cells #[.int .u64 x, .int .u64 y] 40)) = V := ⟨_, rfl⟩
  rw [hV0] at BS BC BT BE ⊢
  have HS := Lib.hid BS
  have HC := Lib.hid BC
  have HT := Lib.hid BT
  have EE := Lib.hid BE
  have ne0_1 : w.heap.size ≠ w.heap.size + 1 := by omega
  have ne0_2 : w.heap.size ≠ w.heap.size + 1 + 1 := by omega
  have ne1_0 : w.heap.size + 1 ≠ w.heap.size := by omega
  have ne1_2 : w.heap.size + 1 ≠ w.heap.size + 1 + 1 := by omega
  have ne2_0 : w.heap.size + 1 + 1 ≠ w.heap.size := by omega
  have ne2_1 : w.heap.size + 1 + 1 ≠ w.heap.size + 1 := by omega
  clear hV0 BE BS BC BT
  have kS0 : V0.cell? ⟨w.heap.size, 0, none⟩ = some (.int .i64 (s 0)) := HS.out.cell 0
  have kS1 : V0.cell? ⟨w.heap.size, 1, none⟩ = some (.int .i64 gg) := HS.out.cell 1
  have kS2 : V0.cell? ⟨w.heap.size, 2, none⟩ = some (.int .i64 (s 2)) := HS.out.cell 2
  have kS3 : V0.cell? ⟨w.heap.size, 3, none⟩ = some (.int .i64 (s 3)) := HS.out.cell 3
  have kS4 : V0.cell? ⟨w.heap.size, 4, none⟩ = some (.int .i64 s4) := HS.out.cell 4
  have kS5 : V0.cell? ⟨w.heap.size, 5, none⟩ = some (.int .i64 s5) := HS.out.cell 5
  have kS6 : V0.cell? ⟨w.heap.size, 6, none⟩ = some (.int .i64 s6) := HS.out.cell 6
  have kS7 : V0.cell? ⟨w.heap.size, 7, none⟩ = some (.int .i64 s7) := HS.out.cell 7
  have kS8 : V0.cell? ⟨w.heap.size, 8, none⟩ = some (.slice A n c) := HS.out.cell 8
  have kS9 : V0.cell? ⟨w.heap.size, 9, none⟩ = some (.int .i64 (s 9)) := HS.out.cell 9
  have kS10 : V0.cell? ⟨w.heap.size, 10, none⟩ = some (.int .i64 (s 10)) := HS.out.cell 10
  have kS11 : V0.cell? ⟨w.heap.size, 11, none⟩ = some (.int .i64 (s 11)) := HS.out.cell 11
  have kS12 : V0.cell? ⟨w.heap.size, 12, none⟩ = some (.int .i64 (s 12)) := HS.out.cell 12
  have kC0 : V0.cell? ⟨w.heap.size + 1, 0, none⟩ = some (.int .i64 p) := HC.out.cell 0
  have kC1 : V0.cell? ⟨w.heap.size + 1, 1, none⟩ = some (.int .i64 d) := HC.out.cell 1
  have kC2 : V0.cell? ⟨w.heap.size + 1, 2, none⟩ = some (.int .i64 mo) := HC.out.cell 2
  have kC3 : V0.cell? ⟨w.heap.size + 1, 3, none⟩ = some (.int .i64 le) := HC.out.cell 3
  have kC4 : V0.cell? ⟨w.heap.size + 1, 4, none⟩ = some (.bool bw) := HC.out.cell 4
  have kC5 : V0.cell? ⟨w.heap.size + 1, 5, none⟩ = some (R) := HC.out.cell 5
  have kT0 : V0.cell? ⟨w.heap.size + 1 + 1, 0, none⟩ = some (.int .u64 x) := HT.out.cell 0
  have kT1 : V0.cell? ⟨w.heap.size + 1 + 1, 1, none⟩ = some (.int .u64 y) := HT.out.cell 1
  go_wp2_with fail
  refine (JI.out _).mono ?_
  rintro e v1 ⟨LA, LC, rfl, hR, hb⟩
  have HRL := Lib.hid hR
  clear hR
  clear kS0 kS1 kS2 kS3 kS4 kS5 kS6 kS7 kS8 kS9 kS10 kS11 kS12 kC0 kC1 kC2 kC3 kC4 kC5 kT0 kT1
  have HS := Lib.hid (Blk.next (w := V0) HS.out hb)
  have HC := Lib.hid (Blk.next (w := V0) HC.out hb)
  have HT := Lib.hid (Blk.next (w := V0) HT.out hb)
  have EE := Lib.hid (EE.out.trans (hb.mono EE.out.size))
  clear hb
  have kS0 : v1.cell? ⟨w.heap.size, 0, none⟩ = some (.int .i64 (s 0)) := HS.out.cell 0
  have kS1 : v1.cell? ⟨w.heap.size, 1, none⟩ = some (.int .i64 gg) := HS.out.cell 1
  have kS2 : v1.cell? ⟨w.heap.size, 2, none⟩ = some (.int .i64 (s 2)) := HS.out.cell 2
  have kS3 : v1.cell? ⟨w.heap.size, 3, none⟩ = some (.int .i64 (s 3)) := HS.out.cell 3
  have kS4 : v1.cell? ⟨w.heap.size, 4, none⟩ = some (.int .i64 s4) := HS.out.cell 4
  have kS5 : v1.cell? ⟨w.heap.size, 5, none⟩ = some (.int .i64 s5) := HS.out.cell 5
  have kS6 : v1.cell? ⟨w.heap.size, 6, none⟩ = some (.int .i64 s6) := HS.out.cell 6
  have kS7 : v1.cell? ⟨w.heap.size, 7, none⟩ = some (.int .i64 s7) := HS.out.cell 7
  have kS8 : v1.cell? ⟨w.heap.size, 8, none⟩ = some (.slice A n c) := HS.out.cell 8
  have kS9 : v1.cell? ⟨w.heap.size, 9, none⟩ = some (.int .i64 (s 9)) := HS.out.cell 9
  have kS10 : v1.cell? ⟨w.heap.size, 10, none⟩ = some (.int .i64 (s 10)) := HS.out.cell 10
  have kS11 : v1.cell? ⟨w.heap.size, 11, none⟩ = some (.int .i64 (s 11)) := HS.out.cell 11
  have kS12 : v1.cell? ⟨w.heap.size, 12, none⟩ = some (.int .i64 (s 12)) := HS.out.cell 12
  have kC0 : v1.cell? ⟨w.heap.size + 1, 0, none⟩ = some (.int .i64 p) := HC.out.cell 0
  have kC1 : v1.cell? ⟨w.heap.size + 1, 1, none⟩ = some (.int .i64 d) := HC.out.cell 1
  have kC2 : v1.cell? ⟨w.heap.size + 1, 2, none⟩ = some (.int .i64 mo) := HC.out.cell 2
  have kC3 : v1.cell? ⟨w.heap.size + 1, 3, none⟩ = some (.int .i64 le) := HC.out.cell 3
  have kC4 : v1.cell? ⟨w.heap.size + 1, 4, none⟩ = some (.bool bw) := HC.out.cell 4
  have kC5 : v1.cell? ⟨w.heap.size + 1, 5, none⟩ = some (R) := HC.out.cell 5
  have kT0 : v1.cell? ⟨w.heap.size + 1 + 1, 0, none⟩ = some (.int .u64 x) := HT.out.cell 0
  have kT1 : v1.cell? ⟨w.heap.size + 1 + 1, 1, none⟩ = some (.int .u64 y) := HT.out.cell 1
  go_wp2_with fail
  clear kS0 kS1 kS2 kS3 kS4 kS5 kS6 kS7 kS8 kS9 kS10 kS11 kS12 kC0 kC1 kC2 kC3 kC4 kC5 kT0 kT1
  obtain ⟨X0, hX0⟩ : ∃ X, v1 = X := ⟨_, rfl⟩
  rw [hX0] at HS HC HT EE HRL ⊢
  clear hX0
  go_loopw [11, 13] (fun V i wr => ∃ k : Nat, k ≤ NN ∧ i = .int .i64 k ∧ PRow l gg k V X0 wr) (fun _ i _ => NN - (intOf i).toNat)
  case atStart => exact ⟨0, by omega, rfl, World.ownsRow_nil _ _ _ _, Below.refl _ _⟩
  case round =>
    obtain ⟨k, hk, rfl, hown, hb⟩ := hrel
    by_cases h : k < NN
    · have RLk := HRL.out.kept hb
      obtain ⟨bb, off, rfl, hltX, _⟩ := rdI_row HRL.out (by have := HNN.out; omega)
      obtain ⟨bb', off', e', hlt, hc⟩ := rdI_row RLk (by have := HNN.out; omega)
      cases e'
      have ck := hc k (by have := HNN.out; omega)
      clear hc RLk
      have zb := HZB.out k h
      obtain ⟨v, hv⟩ : ∃ v, zat l k * gg = v := ⟨_, rfl⟩
      have HV := Lib.hid hv
      rw [hv] at zb
      obtain ⟨z, hz⟩ : ∃ z, zat l k = z := ⟨_, rfl⟩
      rw [hz] at ck hv
      clear hz
      have hwv : IntKind.i64.wrap (z * gg) = v := by rw [hv]; exact IntWalk.i64_in _ (by omega)
      obtain ⟨vA, vc, hvv⟩ := mkSlice hown
      subst hvv
      clear hv zb
      have agb : (Value.slice vA k vc).ownBlock ≠ some bb := fun e => by have := ownR_ge hown e; omega
      have hXs := HS.out.lt
      have agw : (Value.slice vA k vc).ownBlock ≠ some w.heap.size := fun e => by have := ownR_ge hown e; omega
      have HSr := HS.out.next hb
      have hgs : w.heap.size < wr.heap.size := HSr.lt
      have f0 : wr.cell? ⟨w.heap.size, 0, none⟩ = some (.int .i64 (s 0)) := HSr.cell 0
      have f1 : wr.cell? ⟨w.heap.size, 1, none⟩ = some (.int .i64 gg) := HSr.cell 1
      have f2 : wr.cell? ⟨w.heap.size, 2, none⟩ = some (.int .i64 (s 2)) := HSr.cell 2
      have f3 : wr.cell? ⟨w.heap.size, 3, none⟩ = some (.int .i64 (s 3)) := HSr.cell 3
      have f4 : wr.cell? ⟨w.heap.size, 4, none⟩ = some (.int .i64 s4) := HSr.cell 4
      have f5 : wr.cell? ⟨w.heap.size, 5, none⟩ = some (.int .i64 s5) := HSr.cell 5
      have f6 : wr.cell? ⟨w.heap.size, 6, none⟩ = some (.int .i64 s6) := HSr.cell 6
      have f7 : wr.cell? ⟨w.heap.size, 7, none⟩ = some (.int .i64 s7) := HSr.cell 7
      have f8 : wr.cell? ⟨w.heap.size, 8, none⟩ = some (.slice A n c) := HSr.cell 8
      have f9 : wr.cell? ⟨w.heap.size, 9, none⟩ = some (.int .i64 (s 9)) := HSr.cell 9
      have f10 : wr.cell? ⟨w.heap.size, 10, none⟩ = some (.int .i64 (s 10)) := HSr.cell 10
      have f11 : wr.cell? ⟨w.heap.size, 11, none⟩ = some (.int .i64 (s 11)) := HSr.cell 11
      have f12 : wr.cell? ⟨w.heap.size, 12, none⟩ = some (.int .i64 (s 12)) := HSr.cell 12
      have j0 : (0 : Int) ≤ (k : Int) := Int.natCast_nonneg _
      have j1 : (k : Int) < (NN : Int) := by omega
      have hsz1 := hb.size
      have HB := Lib.hid hb
      clear HSr hb
      go_wp2_with fail
      go_region_held3 (fun X => X.cell? ⟨w.heap.size, 0, none⟩ = some (.int .i64 (s 0)) ∧ X.cell? ⟨w.heap.size, 1, none⟩ = some (.int .i64 gg) ∧ X.cell? ⟨w.heap.size, 2, none⟩ = some (.int .i64 (s 2)) ∧ X.cell? ⟨w.heap.size, 3, none⟩ = some (.int .i64 (s 3)) ∧ X.cell? ⟨w.heap.size, 4, none⟩ = some (.int .i64 s4) ∧ X.cell? ⟨w.heap.size, 5, none⟩ = some (.int .i64 s5) ∧ X.cell? ⟨w.heap.size, 6, none⟩ = some (.int .i64 s6) ∧ X.cell? ⟨w.heap.size, 7, none⟩ = some (.int .i64 s7) ∧ X.cell? ⟨w.heap.size, 8, none⟩ = some (.slice A n c) ∧ X.cell? ⟨w.heap.size, 9, none⟩ = some (.int .i64 (s 9)) ∧ X.cell? ⟨w.heap.size, 10, none⟩ = some (.int .i64 (s 10)) ∧ X.cell? ⟨w.heap.size, 11, none⟩ = some (.int .i64 (s 11)) ∧ X.cell? ⟨w.heap.size, 12, none⟩ = some (.int .i64 (s 12)) ∧ X.cell? ⟨bb, off + k, none⟩ = some (.int .i64 z))
        (first
          | go_keep
          | (go_split_ands
             refine ⟨?_, ?_, ?_, ?_, ?_, ?_, ?_, ?_, ?_, ?_, ?_, ?_, ?_, ?_⟩
             · (rw [hgrow.cell_far _ (by simp; omega) (Ne.symm agw)]; assumption)
             · (rw [hgrow.cell_far _ (by simp; omega) (Ne.symm agw)]; assumption)
             · (rw [hgrow.cell_far _ (by simp; omega) (Ne.symm agw)]; assumption)
             · (rw [hgrow.cell_far _ (by simp; omega) (Ne.symm agw)]; assumption)
             · (rw [hgrow.cell_far _ (by simp; omega) (Ne.symm agw)]; assumption)
             · (rw [hgrow.cell_far _ (by simp; omega) (Ne.symm agw)]; assumption)
             · (rw [hgrow.cell_far _ (by simp; omega) (Ne.symm agw)]; assumption)
             · (rw [hgrow.cell_far _ (by simp; omega) (Ne.symm agw)]; assumption)
             · (rw [hgrow.cell_far _ (by simp; omega) (Ne.symm agw)]; assumption)
             · (rw [hgrow.cell_far _ (by simp; omega) (Ne.symm agw)]; assumption)
             · (rw [hgrow.cell_far _ (by simp; omega) (Ne.symm agw)]; assumption)
             · (rw [hgrow.cell_far _ (by simp; omega) (Ne.symm agw)]; assumption)
             · (rw [hgrow.cell_far _ (by simp; omega) (Ne.symm agw)]; assumption)
             · (rw [hgrow.cell_far _ (by simp; omega) (Ne.symm agb)]; assumption)))
        (first
          | (refine step_append_lies _ (by rfl) _ _ _ (by rfl) X0.heap.size 3 i0 _ 1 8 Tryd.underlying48 hi hz0 hz1 hz2 rfl (by omega) (.slice vA k vc) k ((plL l gg k).map (Value.int .i64)) (by rfl) ((hown.alloc _).drew) ⟨wr.heap.size, 0, none⟩ 1 1 [.int .i64 v] (by rfl) (by rfl) (World.news_of_block (cs := #[.int .i64 v]) (t := 3) (fr := (0, 0)) (heap_alloc_new wr _)) (by simp [Value.oneCell']) (by omega) (by unfold maxLen; omega) (by omega) (by simp; omega) (wr.heap.size + 1) (by simp) ?_; intro gq cap2 w4 hown' hgrow hat hlt2))
      have hb5 : Below X0.heap.size X0 w4 := by
        refine ((HB.out.alloc HB.out.size _).drew).grown hgrow (by simp; omega) (fun g hg => ?_)
        first | exact ownR_ge hown hg | exact ownR_ge hown hg.symm
      have HR := Lib.hid (prow_push HV.out hown' hb5)
      clear hown' hgrow
      go_wp2_with fail
      go_roundw
      case rel => exact ⟨k + 1, by omega, by go_num, HR.out⟩
      case measure => simp [intOf]; omega
    · obtain rfl : k = NN := by omega
      have hk' : ¬ ((k : Int) < k) := by omega
      obtain ⟨vA, vc, hvv⟩ := mkSlice hown
      subst hvv
      have hown2 : wr.ownsRow X0.heap.size 3 1 (.slice vA k vc) (plL l gg k).length ((plL l gg k).map (Value.int .i64)) := by rw [plL_len]; exact hown
      obtain ⟨PA, pc, hv, hRP⟩ := ownR_rd hown2 (by rw [plL_len]; exact HPW.out)
      rw [plL_len] at hv
      cases hv
      have HRP := Lib.hid hRP
      clear hown hown2 hRP
      have HS := Lib.hid (Blk.next (w := X0) HS.out hb)
      have HC := Lib.hid (Blk.next (w := X0) HC.out hb)
      have HT := Lib.hid (Blk.next (w := X0) HT.out hb)
      have EE := Lib.hid (EE.out.trans (hb.mono EE.out.size))
      clear hb
      have kS0 : wr.cell? ⟨w.heap.size, 0, none⟩ = some (.int .i64 (s 0)) := HS.out.cell 0
      have kS1 : wr.cell? ⟨w.heap.size, 1, none⟩ = some (.int .i64 gg) := HS.out.cell 1
      have kS2 : wr.cell? ⟨w.heap.size, 2, none⟩ = some (.int .i64 (s 2)) := HS.out.cell 2
      have kS3 : wr.cell? ⟨w.heap.size, 3, none⟩ = some (.int .i64 (s 3)) := HS.out.cell 3
      have kS4 : wr.cell? ⟨w.heap.size, 4, none⟩ = some (.int .i64 s4) := HS.out.cell 4
      have kS5 : wr.cell? ⟨w.heap.size, 5, none⟩ = some (.int .i64 s5) := HS.out.cell 5
      have kS6 : wr.cell? ⟨w.heap.size, 6, none⟩ = some (.int .i64 s6) := HS.out.cell 6
      have kS7 : wr.cell? ⟨w.heap.size, 7, none⟩ = some (.int .i64 s7) := HS.out.cell 7
      have kS8 : wr.cell? ⟨w.heap.size, 8, none⟩ = some (.slice A n c) := HS.out.cell 8
      have kS9 : wr.cell? ⟨w.heap.size, 9, none⟩ = some (.int .i64 (s 9)) := HS.out.cell 9
      have kS10 : wr.cell? ⟨w.heap.size, 10, none⟩ = some (.int .i64 (s 10)) := HS.out.cell 10
      have kS11 : wr.cell? ⟨w.heap.size, 11, none⟩ = some (.int .i64 (s 11)) := HS.out.cell 11
      have kS12 : wr.cell? ⟨w.heap.size, 12, none⟩ = some (.int .i64 (s 12)) := HS.out.cell 12
      have kC0 : wr.cell? ⟨w.heap.size + 1, 0, none⟩ = some (.int .i64 p) := HC.out.cell 0
      have kC1 : wr.cell? ⟨w.heap.size + 1, 1, none⟩ = some (.int .i64 d) := HC.out.cell 1
      have kC2 : wr.cell? ⟨w.heap.size + 1, 2, none⟩ = some (.int .i64 mo) := HC.out.cell 2
      have kC3 : wr.cell? ⟨w.heap.size + 1, 3, none⟩ = some (.int .i64 le) := HC.out.cell 3
      have kC4 : wr.cell? ⟨w.heap.size + 1, 4, none⟩ = some (.bool bw) := HC.out.cell 4
      have kC5 : wr.cell? ⟨w.heap.size + 1, 5, none⟩ = some (R) := HC.out.cell 5
      have kT0 : wr.cell? ⟨w.heap.size + 1 + 1, 0, none⟩ = some (.int .u64 x) := HT.out.cell 0
      have kT1 : wr.cell? ⟨w.heap.size + 1 + 1, 1, none⟩ = some (.int .u64 y) := HT.out.cell 1
      clear kS0 kS1 kS2 kS3 kS4 kS5 kS6 kS7 kS8 kS9 kS10 kS11 kS12 kC0 kC1 kC2 kC3 kC4 kC5 kT0 kT1
      have kS0 : wr.cell? ⟨w.heap.size, 0, none⟩ = some (.int .i64 (s 0)) := HS.out.cell 0
      have kS1 : wr.cell? ⟨w.heap.size, 1, none⟩ = some (.int .i64 gg) := HS.out.cell 1
      have kS2 : wr.cell? ⟨w.heap.size, 2, none⟩ = some (.int .i64 (s 2)) := HS.out.cell 2
      have kS3 : wr.cell? ⟨w.heap.size, 3, none⟩ = some (.int .i64 (s 3)) := HS.out.cell 3
      have kS4 : wr.cell? ⟨w.heap.size, 4, none⟩ = some (.int .i64 s4) := HS.out.cell 4
      have kS5 : wr.cell? ⟨w.heap.size, 5, none⟩ = some (.int .i64 s5) := HS.out.cell 5
      have kS6 : wr.cell? ⟨w.heap.size, 6, none⟩ = some (.int .i64 s6) := HS.out.cell 6
      have kS7 : wr.cell? ⟨w.heap.size, 7, none⟩ = some (.int .i64 s7) := HS.out.cell 7
      have kS8 : wr.cell? ⟨w.heap.size, 8, none⟩ = some (.slice A n c) := HS.out.cell 8
      have kS9 : wr.cell? ⟨w.heap.size, 9, none⟩ = some (.int .i64 (s 9)) := HS.out.cell 9
      have kS10 : wr.cell? ⟨w.heap.size, 10, none⟩ = some (.int .i64 (s 10)) := HS.out.cell 10
      have kS11 : wr.cell? ⟨w.heap.size, 11, none⟩ = some (.int .i64 (s 11)) := HS.out.cell 11
      have kS12 : wr.cell? ⟨w.heap.size, 12, none⟩ = some (.int .i64 (s 12)) := HS.out.cell 12
      have kC0 : wr.cell? ⟨w.heap.size + 1, 0, none⟩ = some (.int .i64 p) := HC.out.cell 0
      have kC1 : wr.cell? ⟨w.heap.size + 1, 1, none⟩ = some (.int .i64 d) := HC.out.cell 1
      have kC2 : wr.cell? ⟨w.heap.size + 1, 2, none⟩ = some (.int .i64 mo) := HC.out.cell 2
      have kC3 : wr.cell? ⟨w.heap.size + 1, 3, none⟩ = some (.int .i64 le) := HC.out.cell 3
      have kC4 : wr.cell? ⟨w.heap.size + 1, 4, none⟩ = some (.bool bw) := HC.out.cell 4
      have kC5 : wr.cell? ⟨w.heap.size + 1, 5, none⟩ = some (R) := HC.out.cell 5
      have kT0 : wr.cell? ⟨w.heap.size + 1 + 1, 0, none⟩ = some (.int .u64 x) := HT.out.cell 0
      have kT1 : wr.cell? ⟨w.heap.size + 1 + 1, 1, none⟩ = some (.int .u64 y) := HT.out.cell 1
      have hs1 := J1.out; have hs2 := J2.out; have hs3 := J3.out; have hwm := J4.out
      go_wp2_with fail
      have sK : ∀ X, Blk X (w.heap.size) 25 #[.int .i64 (s 0), .int .i64 gg, .int .i64 (s 2), .int .i64 (s 3), .int .i64 s4, .int .i64 s5, .int .i64 s6, .int .i64 s7, .slice A n c, .int .i64 (s 9), .int .i64 (s 10), .int .i64 (s 11), .int .i64 (s 12)] → (fun X => X.cell? ⟨w.heap.size, 0, none⟩ = some (.int .i64 (s 0)) ∧ X.cell? ⟨w.heap.size, 1, none⟩ = some (.int .i64 gg) ∧ X.cell? ⟨w.heap.size, 2, none⟩ = some (.int .i64 (s 2)) ∧ X.cell? ⟨w.heap.size, 3, none⟩ = some (.int .i64 (s 3)) ∧ X.cell? ⟨w.heap.size, 4, none⟩ = some (.int .i64 s4) ∧ X.cell? ⟨w.heap.size, 5, none⟩ = some (.int .i64 s5) ∧ X.cell? ⟨w.heap.size, 6, none⟩ = some (.int .i64 s6) ∧ X.cell? ⟨w.heap.size, 7, none⟩ = some (.int .i64 s7) ∧ X.cell? ⟨w.heap.size, 8, none⟩ = some (.slice A n c) ∧ X.cell? ⟨w.heap.size, 9, none⟩ = some (.int .i64 (s 9)) ∧ X.cell? ⟨w.heap.size, 10, none⟩ = some (.int .i64 (s 10)) ∧ X.cell? ⟨w.heap.size, 11, none⟩ = some (.int .i64 (s 11)) ∧ X.cell? ⟨w.heap.size, 12, none⟩ = some (.int .i64 (s 12))) X := fun X hS => ⟨hS.cell 0, hS.cell 1, hS.cell 2, hS.cell 3, hS.cell 4, hS.cell 5, hS.cell 6, hS.cell 7, hS.cell 8, hS.cell 9, hS.cell 10, hS.cell 11, hS.cell 12⟩
      have LS0 := Lib.hid (HS.out.drew)
      have E0 := Lib.hid (EE.out.drew)
      clear kS0 kS1 kS2 kS3 kS4 kS5 kS6 kS7 kS8 kS9 kS10 kS11 kS12 kC0 kC1 kC2 kC3 kC4 kC5 kT0 kT1
      refine wp_region_held_drew (S := (fun X => X.cell? ⟨w.heap.size, 0, none⟩ = some (.int .i64 (s 0)) ∧ X.cell? ⟨w.heap.size, 1, none⟩ = some (.int .i64 gg) ∧ X.cell? ⟨w.heap.size, 2, none⟩ = some (.int .i64 (s 2)) ∧ X.cell? ⟨w.heap.size, 3, none⟩ = some (.int .i64 (s 3)) ∧ X.cell? ⟨w.heap.size, 4, none⟩ = some (.int .i64 s4) ∧ X.cell? ⟨w.heap.size, 5, none⟩ = some (.int .i64 s5) ∧ X.cell? ⟨w.heap.size, 6, none⟩ = some (.int .i64 s6) ∧ X.cell? ⟨w.heap.size, 7, none⟩ = some (.int .i64 s7) ∧ X.cell? ⟨w.heap.size, 8, none⟩ = some (.slice A n c) ∧ X.cell? ⟨w.heap.size, 9, none⟩ = some (.int .i64 (s 9)) ∧ X.cell? ⟨w.heap.size, 10, none⟩ = some (.int .i64 (s 10)) ∧ X.cell? ⟨w.heap.size, 11, none⟩ = some (.int .i64 (s 11)) ∧ X.cell? ⟨w.heap.size, 12, none⟩ = some (.int .i64 (s 12)))) (by kernel_rfl) (sK _ LS0.out) (fun hHeld => ?_)
      clear hHeld
      refine wpAnyH_take (i := 0) (v := ?_) rfl (by kernel_rfl) (by kernel_rfl) (by kernel_rfl) (fun _ _ _ h => h) (Or.inl ⟨by rfl, ?_⟩) (sK _ LS0.out) ?_
      rotate_left
      · (intro wS hSw; (try dsimp only at hSw); go_simp; try with_reducible rfl)
      simp only [Act.put, List.getElem_toArray, List.getElem_cons_zero, List.getElem_cons_succ, List.setIfInBounds_toArray, List.set_cons_zero, List.set_cons_succ]
      refine wpAnyH_take (i := 1) (v := ?_) rfl (by kernel_rfl) (by kernel_rfl) (by kernel_rfl) (fun _ _ _ h => h) (Or.inl ⟨by rfl, ?_⟩) (sK _ LS0.out) ?_
      rotate_left
      · (intro wS hSw; (try dsimp only at hSw); go_simp; try with_reducible rfl)
      simp only [Act.put, List.getElem_toArray, List.getElem_cons_zero, List.getElem_cons_succ, List.setIfInBounds_toArray, List.set_cons_zero, List.set_cons_succ]
      refine wpAnyH_take (i := 2) (v := ?_) rfl (by kernel_rfl) (by kernel_rfl) (by kernel_rfl) (fun _ _ _ h => h) (Or.inl ⟨by rfl, ?_⟩) (sK _ LS0.out) ?_
      rotate_left
      · (intro wS hSw; (try dsimp only at hSw); go_simp; try with_reducible rfl)
      simp only [Act.put, List.getElem_toArray, List.getElem_cons_zero, List.getElem_cons_succ, List.setIfInBounds_toArray, List.set_cons_zero, List.set_cons_succ]
      refine wpAnyH_take (i := 3) (v := ?_) rfl (by kernel_rfl) (by kernel_rfl) (by kernel_rfl) (fun _ _ _ h => h) (Or.inl ⟨by rfl, ?_⟩) (sK _ LS0.out) ?_
      rotate_left
      · (intro wS hSw; (try dsimp only at hSw); go_simp; try with_reducible rfl)
      simp only [Act.put, List.getElem_toArray, List.getElem_cons_zero, List.getElem_cons_succ, List.setIfInBounds_toArray, List.set_cons_zero, List.set_cons_succ]
      refine wpAnyH_take (i := 4) (v := ?_) rfl (by kernel_rfl) (by kernel_rfl) (by kernel_rfl) (fun _ _ _ h => h) (Or.inl ⟨by rfl, ?_⟩) (sK _ LS0.out) ?_
      rotate_left
      · (intro wS hSw; (try dsimp only at hSw); go_simp; try with_reducible rfl)
      simp only [Act.put, List.getElem_toArray, List.getElem_cons_zero, List.getElem_cons_succ, List.setIfInBounds_toArray, List.set_cons_zero, List.set_cons_succ]
      refine wpAnyH_take (i := 5) (v := ?_) rfl (by kernel_rfl) (by kernel_rfl) (by kernel_rfl) (fun _ _ _ h => h) (Or.inl ⟨by rfl, ?_⟩) (sK _ LS0.out) ?_
      rotate_left
      · (intro wS hSw; (try dsimp only at hSw); go_simp; try with_reducible rfl)
      simp only [Act.put, List.getElem_toArray, List.getElem_cons_zero, List.getElem_cons_succ, List.setIfInBounds_toArray, List.set_cons_zero, List.set_cons_succ]
      refine wpAnyH_take (i := 6) (v := ?_) rfl (by kernel_rfl) (by kernel_rfl) (by kernel_rfl) (fun _ _ _ h => h) (Or.inl ⟨by rfl, ?_⟩) (sK _ LS0.out) ?_
      rotate_left
      · (intro wS hSw; (try dsimp only at hSw); go_simp; try with_reducible rfl)
      simp only [Act.put, List.getElem_toArray, List.getElem_cons_zero, List.getElem_cons_succ, List.setIfInBounds_toArray, List.set_cons_zero, List.set_cons_succ]
      refine wpAnyH_take (i := 7) (v := ?_) rfl (by kernel_rfl) (by kernel_rfl) (by kernel_rfl) (fun _ _ _ h => h) (Or.inl ⟨by rfl, ?_⟩) (sK _ LS0.out) ?_
      rotate_left
      · (intro wS hSw; (try dsimp only at hSw); go_simp; try with_reducible rfl)
      simp only [Act.put, List.getElem_toArray, List.getElem_cons_zero, List.getElem_cons_succ, List.setIfInBounds_toArray, List.set_cons_zero, List.set_cons_succ]
      refine wpAnyH_take (i := 8) (v := ?_) rfl (by kernel_rfl) (by kernel_rfl) (by kernel_rfl) (fun _ _ _ h => h) (Or.inl ⟨by rfl, ?_⟩) (sK _ LS0.out) ?_
      rotate_left
      · (intro wS hSw; (try dsimp only at hSw); go_simp; try with_reducible rfl)
      simp only [Act.put, List.getElem_toArray, List.getElem_cons_zero, List.getElem_cons_succ, List.setIfInBounds_toArray, List.set_cons_zero, List.set_cons_succ]
      refine wpAnyH_take (i := 9) (v := ?_) rfl (by kernel_rfl) (by kernel_rfl) (by kernel_rfl) (fun _ _ _ h => h) (Or.inl ⟨by rfl, ?_⟩) (sK _ LS0.out) ?_
      rotate_left
      · (intro wS hSw; (try dsimp only at hSw); go_simp; try with_reducible rfl)
      simp only [Act.put, List.getElem_toArray, List.getElem_cons_zero, List.getElem_cons_succ, List.setIfInBounds_toArray, List.set_cons_zero, List.set_cons_succ]
      refine wpAnyH_take (i := 10) (v := ?_) rfl (by kernel_rfl) (by kernel_rfl) (by kernel_rfl) (fun _ _ _ h => h) (Or.inl ⟨by rfl, ?_⟩) (sK _ LS0.out) ?_
      rotate_left
      · (intro wS hSw; (try dsimp only at hSw); go_simp; try with_reducible rfl)
      simp only [Act.put, List.getElem_toArray, List.getElem_cons_zero, List.getElem_cons_succ, List.setIfInBounds_toArray, List.set_cons_zero, List.set_cons_succ]
      refine wpAnyH_take (i := 11) (v := ?_) rfl (by kernel_rfl) (by kernel_rfl) (by kernel_rfl) (fun _ _ _ h => h) (Or.inl ⟨by rfl, ?_⟩) (sK _ LS0.out) ?_
      rotate_left
      · (intro wS hSw; (try dsimp only at hSw); go_simp; try with_reducible rfl)
      simp only [Act.put, List.getElem_toArray, List.getElem_cons_zero, List.getElem_cons_succ, List.setIfInBounds_toArray, List.set_cons_zero, List.set_cons_succ]
      refine wpAnyH_take (i := 12) (v := ?_) rfl (by kernel_rfl) (by kernel_rfl) (by kernel_rfl) (fun _ _ _ h => h) (Or.inl ⟨by rfl, ?_⟩) (sK _ LS0.out) ?_
      rotate_left
      · (intro wS hSw; (try dsimp only at hSw); go_simp; try with_reducible rfl)
      simp only [Act.put, List.getElem_toArray, List.getElem_cons_zero, List.getElem_cons_succ, List.setIfInBounds_toArray, List.set_cons_zero, List.set_cons_succ]
      refine wpAnyH_take (i := 13) (v := ?_) rfl (by kernel_rfl) (by kernel_rfl) (by kernel_rfl) (fun _ _ _ h => h) (Or.inl ⟨by rfl, ?_⟩) (sK _ LS0.out) ?_
      rotate_left
      · (intro wS hSw; (try dsimp only at hSw); go_simp; try with_reducible rfl)
      simp only [Act.put, List.getElem_toArray, List.getElem_cons_zero, List.getElem_cons_succ, List.setIfInBounds_toArray, List.set_cons_zero, List.set_cons_succ]
      refine wpAnyH_take (i := 14) (v := ?_) rfl (by kernel_rfl) (by kernel_rfl) (by kernel_rfl) (fun _ _ _ h => h) (Or.inl ⟨by rfl, ?_⟩) (sK _ LS0.out) ?_
      rotate_left
      · (intro wS hSw; (try dsimp only at hSw); go_simp; try with_reducible rfl)
      simp only [Act.put, List.getElem_toArray, List.getElem_cons_zero, List.getElem_cons_succ, List.setIfInBounds_toArray, List.set_cons_zero, List.set_cons_succ]
      refine wpAnyH_take (i := 15) (v := ?_) rfl (by kernel_rfl) (by kernel_rfl) (by kernel_rfl) (fun _ _ _ h => h) (Or.inl ⟨by rfl, ?_⟩) (sK _ LS0.out) ?_
      rotate_left
      · (intro wS hSw; (try dsimp only at hSw); go_simp; try with_reducible rfl)
      simp only [Act.put, List.getElem_toArray, List.getElem_cons_zero, List.getElem_cons_succ, List.setIfInBounds_toArray, List.set_cons_zero, List.set_cons_succ]
      refine wpAnyH_take (i := 16) (v := ?_) rfl (by kernel_rfl) (by kernel_rfl) (by kernel_rfl) (fun _ _ _ h => h) (Or.inl ⟨by rfl, ?_⟩) (sK _ LS0.out) ?_
      rotate_left
      · (intro wS hSw; (try dsimp only at hSw); go_simp; try with_reducible rfl)
      simp only [Act.put, List.getElem_toArray, List.getElem_cons_zero, List.getElem_cons_succ, List.setIfInBounds_toArray, List.set_cons_zero, List.set_cons_succ]
      refine wpAnyH_done (by kernel_rfl) ?_ _
      clear hs1 hs2 hs3 hwm
      have HC := Lib.hid (Blk.drew HC.out); have HT := Lib.hid (Blk.drew HT.out); have EE := Lib.hid EE.out.drew; have HS := Lib.hid (Blk.drew HS.out)
      have HRP2 : RdI wr.drew .i64 vA (plL l gg k) := HRP.out
      replace HRP := Lib.hid HRP2
      clear HRP2
      have kS0 : wr.drew.cell? ⟨w.heap.size, 0, none⟩ = some (.int .i64 (s 0)) := HS.out.cell 0
      have kS1 : wr.drew.cell? ⟨w.heap.size, 1, none⟩ = some (.int .i64 gg) := HS.out.cell 1
      have kS2 : wr.drew.cell? ⟨w.heap.size, 2, none⟩ = some (.int .i64 (s 2)) := HS.out.cell 2
      have kS3 : wr.drew.cell? ⟨w.heap.size, 3, none⟩ = some (.int .i64 (s 3)) := HS.out.cell 3
      have kS4 : wr.drew.cell? ⟨w.heap.size, 4, none⟩ = some (.int .i64 s4) := HS.out.cell 4
      have kS5 : wr.drew.cell? ⟨w.heap.size, 5, none⟩ = some (.int .i64 s5) := HS.out.cell 5
      have kS6 : wr.drew.cell? ⟨w.heap.size, 6, none⟩ = some (.int .i64 s6) := HS.out.cell 6
      have kS7 : wr.drew.cell? ⟨w.heap.size, 7, none⟩ = some (.int .i64 s7) := HS.out.cell 7
      have kS8 : wr.drew.cell? ⟨w.heap.size, 8, none⟩ = some (.slice A n c) := HS.out.cell 8
      have kS9 : wr.drew.cell? ⟨w.heap.size, 9, none⟩ = some (.int .i64 (s 9)) := HS.out.cell 9
      have kS10 : wr.drew.cell? ⟨w.heap.size, 10, none⟩ = some (.int .i64 (s 10)) := HS.out.cell 10
      have kS11 : wr.drew.cell? ⟨w.heap.size, 11, none⟩ = some (.int .i64 (s 11)) := HS.out.cell 11
      have kS12 : wr.drew.cell? ⟨w.heap.size, 12, none⟩ = some (.int .i64 (s 12)) := HS.out.cell 12
      have kC0 : wr.drew.cell? ⟨w.heap.size + 1, 0, none⟩ = some (.int .i64 p) := HC.out.cell 0
      have kC1 : wr.drew.cell? ⟨w.heap.size + 1, 1, none⟩ = some (.int .i64 d) := HC.out.cell 1
      have kC2 : wr.drew.cell? ⟨w.heap.size + 1, 2, none⟩ = some (.int .i64 mo) := HC.out.cell 2
      have kC3 : wr.drew.cell? ⟨w.heap.size + 1, 3, none⟩ = some (.int .i64 le) := HC.out.cell 3
      have kC4 : wr.drew.cell? ⟨w.heap.size + 1, 4, none⟩ = some (.bool bw) := HC.out.cell 4
      have kC5 : wr.drew.cell? ⟨w.heap.size + 1, 5, none⟩ = some (R) := HC.out.cell 5
      have kT0 : wr.drew.cell? ⟨w.heap.size + 1 + 1, 0, none⟩ = some (.int .u64 x) := HT.out.cell 0
      have kT1 : wr.drew.cell? ⟨w.heap.size + 1 + 1, 1, none⟩ = some (.int .u64 y) := HT.out.cell 1
      go_wp2_with fail
      refine (JH.out vA vc _ HRP.out).mono ?_
      rintro e v2 ⟨OA, oc, rfl, hRO, hb⟩
      have HRO := Lib.hid hRO
      clear hRO
      have HRP := Lib.hid (HRP.out.kept (w := wr.drew) hb)
      clear kS0 kS1 kS2 kS3 kS4 kS5 kS6 kS7 kS8 kS9 kS10 kS11 kS12 kC0 kC1 kC2 kC3 kC4 kC5 kT0 kT1
      have HS := Lib.hid (Blk.next (w := wr.drew) HS.out hb)
      have HC := Lib.hid (Blk.next (w := wr.drew) HC.out hb)
      have HT := Lib.hid (Blk.next (w := wr.drew) HT.out hb)
      have EE := Lib.hid (EE.out.trans (hb.mono EE.out.size))
      clear hb
      have kS0 : v2.cell? ⟨w.heap.size, 0, none⟩ = some (.int .i64 (s 0)) := HS.out.cell 0
      have kS1 : v2.cell? ⟨w.heap.size, 1, none⟩ = some (.int .i64 gg) := HS.out.cell 1
      have kS2 : v2.cell? ⟨w.heap.size, 2, none⟩ = some (.int .i64 (s 2)) := HS.out.cell 2
      have kS3 : v2.cell? ⟨w.heap.size, 3, none⟩ = some (.int .i64 (s 3)) := HS.out.cell 3
      have kS4 : v2.cell? ⟨w.heap.size, 4, none⟩ = some (.int .i64 s4) := HS.out.cell 4
      have kS5 : v2.cell? ⟨w.heap.size, 5, none⟩ = some (.int .i64 s5) := HS.out.cell 5
      have kS6 : v2.cell? ⟨w.heap.size, 6, none⟩ = some (.int .i64 s6) := HS.out.cell 6
      have kS7 : v2.cell? ⟨w.heap.size, 7, none⟩ = some (.int .i64 s7) := HS.out.cell 7
      have kS8 : v2.cell? ⟨w.heap.size, 8, none⟩ = some (.slice A n c) := HS.out.cell 8
      have kS9 : v2.cell? ⟨w.heap.size, 9, none⟩ = some (.int .i64 (s 9)) := HS.out.cell 9
      have kS10 : v2.cell? ⟨w.heap.size, 10, none⟩ = some (.int .i64 (s 10)) := HS.out.cell 10
      have kS11 : v2.cell? ⟨w.heap.size, 11, none⟩ = some (.int .i64 (s 11)) := HS.out.cell 11
      have kS12 : v2.cell? ⟨w.heap.size, 12, none⟩ = some (.int .i64 (s 12)) := HS.out.cell 12
      have kC0 : v2.cell? ⟨w.heap.size + 1, 0, none⟩ = some (.int .i64 p) := HC.out.cell 0
      have kC1 : v2.cell? ⟨w.heap.size + 1, 1, none⟩ = some (.int .i64 d) := HC.out.cell 1
      have kC2 : v2.cell? ⟨w.heap.size + 1, 2, none⟩ = some (.int .i64 mo) := HC.out.cell 2
      have kC3 : v2.cell? ⟨w.heap.size + 1, 3, none⟩ = some (.int .i64 le) := HC.out.cell 3
      have kC4 : v2.cell? ⟨w.heap.size + 1, 4, none⟩ = some (.bool bw) := HC.out.cell 4
      have kC5 : v2.cell? ⟨w.heap.size + 1, 5, none⟩ = some (R) := HC.out.cell 5
      have kT0 : v2.cell? ⟨w.heap.size + 1 + 1, 0, none⟩ = some (.int .u64 x) := HT.out.cell 0
      have kT1 : v2.cell? ⟨w.heap.size + 1 + 1, 1, none⟩ = some (.int .u64 y) := HT.out.cell 1
      have hy1 := J5.out
      obtain ⟨yv, hyv⟩ : ∃ v, (m - p) * d = v := ⟨_, rfl⟩
      have hy2 : IntKind.i64.wrap ((m - p) * d) = yv := by rw [← hyv]; exact J6.out
      have AW2 := HAW.out
      rw [hyv] at AW2
      clear YB hyv
      by_cases hcz : cn = 0
      · have hc0 : ((cn : Int) == 0) = true := by simp [hcz]
        have HC0 := Lib.hid hcz
        obtain ⟨cb, hcb⟩ : ∃ b, decide (0 ≤ yv) = b := ⟨_, rfl⟩
        clear AW2 hcz
        go_wp2_with fail
        have HR : Hid (RES = D + X + st * (N : Int)) := Lib.hid (HE1.out (.inl HC0.out))
        clear HE1 HE2 HE3
        obtain ⟨M, hM⟩ : ∃ M, st * (N : Int) = M := ⟨_, rfl⟩
        rw [hM] at M0 M1
        have hw1 : IntKind.i64.wrap (D + X) = D + X := IntWalk.i64_in _ (by omega)
        have hw2 : IntKind.i64.wrap (st * (N : Int)) = M := by rw [hM]; exact IntWalk.i64_in _ (by omega)
        have hw3 : IntKind.i64.wrap (D + X + M) = D + X + M := IntWalk.i64_in _ (by omega)
        have HM := Lib.hid hM
        clear hM
        go_wp2_with fail
        have HRPd : RdI v2.drew .i64 vA (plL l gg k) := rdI_drew HRP.out 1
        replace HRP := Lib.hid HRPd
        clear HRPd
        have sK : ∀ X, Blk X (w.heap.size) 25 #[.int .i64 (s 0), .int .i64 gg, .int .i64 (s 2), .int .i64 (s 3), .int .i64 s4, .int .i64 s5, .int .i64 s6, .int .i64 s7, .slice A n c, .int .i64 (s 9), .int .i64 (s 10), .int .i64 (s 11), .int .i64 (s 12)] → Blk X (w.heap.size + 1) 36 #[.int .i64 p, .int .i64 d, .int .i64 mo, .int .i64 le, .bool bw, R] → (fun X => X.cell? ⟨w.heap.size, 0, none⟩ = some (.int .i64 (s 0)) ∧ X.cell? ⟨w.heap.size, 1, none⟩ = some (.int .i64 gg) ∧ X.cell? ⟨w.heap.size, 2, none⟩ = some (.int .i64 (s 2)) ∧ X.cell? ⟨w.heap.size, 3, none⟩ = some (.int .i64 (s 3)) ∧ X.cell? ⟨w.heap.size, 4, none⟩ = some (.int .i64 s4) ∧ X.cell? ⟨w.heap.size, 5, none⟩ = some (.int .i64 s5) ∧ X.cell? ⟨w.heap.size, 6, none⟩ = some (.int .i64 s6) ∧ X.cell? ⟨w.heap.size, 7, none⟩ = some (.int .i64 s7) ∧ X.cell? ⟨w.heap.size, 8, none⟩ = some (.slice A n c) ∧ X.cell? ⟨w.heap.size, 9, none⟩ = some (.int .i64 (s 9)) ∧ X.cell? ⟨w.heap.size, 10, none⟩ = some (.int .i64 (s 10)) ∧ X.cell? ⟨w.heap.size, 11, none⟩ = some (.int .i64 (s 11)) ∧ X.cell? ⟨w.heap.size, 12, none⟩ = some (.int .i64 (s 12)) ∧ X.cell? ⟨w.heap.size + 1, 0, none⟩ = some (.int .i64 p) ∧ X.cell? ⟨w.heap.size + 1, 1, none⟩ = some (.int .i64 d) ∧ X.cell? ⟨w.heap.size + 1, 2, none⟩ = some (.int .i64 mo) ∧ X.cell? ⟨w.heap.size + 1, 3, none⟩ = some (.int .i64 le) ∧ X.cell? ⟨w.heap.size + 1, 4, none⟩ = some (.bool bw) ∧ X.cell? ⟨w.heap.size + 1, 5, none⟩ = some (R)) X := fun X hS hC => ⟨hS.cell 0, hS.cell 1, hS.cell 2, hS.cell 3, hS.cell 4, hS.cell 5, hS.cell 6, hS.cell 7, hS.cell 8, hS.cell 9, hS.cell 10, hS.cell 11, hS.cell 12, hC.cell 0, hC.cell 1, hC.cell 2, hC.cell 3, hC.cell 4, hC.cell 5⟩
        have LS0 := Lib.hid (HS.out.drew)
        have LC0 := Lib.hid (HC.out.drew)
        have E0 := Lib.hid (EE.out.drew)
        clear kS0 kS1 kS2 kS3 kS4 kS5 kS6 kS7 kS8 kS9 kS10 kS11 kS12 kC0 kC1 kC2 kC3 kC4 kC5 kT0 kT1
        refine wp_region_held_drew (S := (fun X => X.cell? ⟨w.heap.size, 0, none⟩ = some (.int .i64 (s 0)) ∧ X.cell? ⟨w.heap.size, 1, none⟩ = some (.int .i64 gg) ∧ X.cell? ⟨w.heap.size, 2, none⟩ = some (.int .i64 (s 2)) ∧ X.cell? ⟨w.heap.size, 3, none⟩ = some (.int .i64 (s 3)) ∧ X.cell? ⟨w.heap.size, 4, none⟩ = some (.int .i64 s4) ∧ X.cell? ⟨w.heap.size, 5, none⟩ = some (.int .i64 s5) ∧ X.cell? ⟨w.heap.size, 6, none⟩ = some (.int .i64 s6) ∧ X.cell? ⟨w.heap.size, 7, none⟩ = some (.int .i64 s7) ∧ X.cell? ⟨w.heap.size, 8, none⟩ = some (.slice A n c) ∧ X.cell? ⟨w.heap.size, 9, none⟩ = some (.int .i64 (s 9)) ∧ X.cell? ⟨w.heap.size, 10, none⟩ = some (.int .i64 (s 10)) ∧ X.cell? ⟨w.heap.size, 11, none⟩ = some (.int .i64 (s 11)) ∧ X.cell? ⟨w.heap.size, 12, none⟩ = some (.int .i64 (s 12)) ∧ X.cell? ⟨w.heap.size + 1, 0, none⟩ = some (.int .i64 p) ∧ X.cell? ⟨w.heap.size + 1, 1, none⟩ = some (.int .i64 d) ∧ X.cell? ⟨w.heap.size + 1, 2, none⟩ = some (.int .i64 mo) ∧ X.cell? ⟨w.heap.size + 1, 3, none⟩ = some (.int .i64 le) ∧ X.cell? ⟨w.heap.size + 1, 4, none⟩ = some (.bool bw) ∧ X.cell? ⟨w.heap.size + 1, 5, none⟩ = some (R))) (by kernel_rfl) (sK _ LS0.out LC0.out) (fun hHeld => ?_)
        clear hHeld
        refine wpAnyH_take (i := 0) (v := ?_) rfl (by kernel_rfl) (by kernel_rfl) (by kernel_rfl) (fun _ _ _ h => h) (Or.inl ⟨by rfl, ?_⟩) (sK _ LS0.out LC0.out) ?_
        rotate_left
        · (intro wS hSw; (try dsimp only at hSw); go_simp; try with_reducible rfl)
        simp only [Act.put, List.getElem_toArray, List.getElem_cons_zero, List.getElem_cons_succ, List.setIfInBounds_toArray, List.set_cons_zero, List.set_cons_succ]
        refine wpAnyH_take (i := 1) (v := ?_) rfl (by kernel_rfl) (by kernel_rfl) (by kernel_rfl) (fun _ _ _ h => h) (Or.inl ⟨by rfl, ?_⟩) (sK _ LS0.out LC0.out) ?_
        rotate_left
        · (intro wS hSw; (try dsimp only at hSw); go_simp; try with_reducible rfl)
        simp only [Act.put, List.getElem_toArray, List.getElem_cons_zero, List.getElem_cons_succ, List.setIfInBounds_toArray, List.set_cons_zero, List.set_cons_succ]
        refine wpAnyH_take (i := 3) (v := ?_) rfl (by kernel_rfl) (by kernel_rfl) (by kernel_rfl) (fun _ _ _ h => h) (Or.inl ⟨by rfl, ?_⟩) (sK _ LS0.out LC0.out) ?_
        rotate_left
        · (intro wS hSw; (try dsimp only at hSw); go_simp; try with_reducible rfl)
        simp only [Act.put, List.getElem_toArray, List.getElem_cons_zero, List.getElem_cons_succ, List.setIfInBounds_toArray, List.set_cons_zero, List.set_cons_succ]
        refine wpAnyH_take (i := 4) (v := ?_) rfl (by kernel_rfl) (by kernel_rfl) (by kernel_rfl) (fun _ _ _ h => h) (Or.inl ⟨by rfl, ?_⟩) (sK _ LS0.out LC0.out) ?_
        rotate_left
        · (intro wS hSw; (try dsimp only at hSw); go_simp; try with_reducible rfl)
        simp only [Act.put, List.getElem_toArray, List.getElem_cons_zero, List.getElem_cons_succ, List.setIfInBounds_toArray, List.set_cons_zero, List.set_cons_succ]
        refine wpAnyH_take (i := 5) (v := ?_) rfl (by kernel_rfl) (by kernel_rfl) (by kernel_rfl) (fun _ _ _ h => h) (Or.inl ⟨by rfl, ?_⟩) (sK _ LS0.out LC0.out) ?_
        rotate_left
        · (intro wS hSw; (try dsimp only at hSw); go_simp; try with_reducible rfl)
        simp only [Act.put, List.getElem_toArray, List.getElem_cons_zero, List.getElem_cons_succ, List.setIfInBounds_toArray, List.set_cons_zero, List.set_cons_succ]
        refine wpAnyH_take (i := 8) (v := ?_) rfl (by kernel_rfl) (by kernel_rfl) (by kernel_rfl) (fun _ _ _ h => h) (Or.inl ⟨by rfl, ?_⟩) (sK _ LS0.out LC0.out) ?_
        rotate_left
        · (intro wS hSw; (try dsimp only at hSw); go_simp; try with_reducible rfl)
        simp only [Act.put, List.getElem_toArray, List.getElem_cons_zero, List.getElem_cons_succ, List.setIfInBounds_toArray, List.set_cons_zero, List.set_cons_succ]
        refine wpAnyH_take (i := 9) (v := ?_) rfl (by kernel_rfl) (by kernel_rfl) (by kernel_rfl) (fun _ _ _ h => h) (Or.inl ⟨by rfl, ?_⟩) (sK _ LS0.out LC0.out) ?_
        rotate_left
        · (intro wS hSw; (try dsimp only at hSw); go_simp; try with_reducible rfl)
        simp only [Act.put, List.getElem_toArray, List.getElem_cons_zero, List.getElem_cons_succ, List.setIfInBounds_toArray, List.set_cons_zero, List.set_cons_succ]
        refine wpAnyH_take (i := 10) (v := ?_) rfl (by kernel_rfl) (by kernel_rfl) (by kernel_rfl) (fun _ _ _ h => h) (Or.inl ⟨by rfl, ?_⟩) (sK _ LS0.out LC0.out) ?_
        rotate_left
        · (intro wS hSw; (try dsimp only at hSw); go_simp; try with_reducible rfl)
        simp only [Act.put, List.getElem_toArray, List.getElem_cons_zero, List.getElem_cons_succ, List.setIfInBounds_toArray, List.set_cons_zero, List.set_cons_succ]
        refine wpAnyH_take (i := 11) (v := ?_) rfl (by kernel_rfl) (by kernel_rfl) (by kernel_rfl) (fun _ _ _ h => h) (Or.inl ⟨by rfl, ?_⟩) (sK _ LS0.out LC0.out) ?_
        rotate_left
        · (intro wS hSw; (try dsimp only at hSw); go_simp; try with_reducible rfl)
        simp only [Act.put, List.getElem_toArray, List.getElem_cons_zero, List.getElem_cons_succ, List.setIfInBounds_toArray, List.set_cons_zero, List.set_cons_succ]
        refine wpAnyH_take (i := 12) (v := ?_) rfl (by kernel_rfl) (by kernel_rfl) (by kernel_rfl) (fun _ _ _ h => h) (Or.inl ⟨by rfl, ?_⟩) (sK _ LS0.out LC0.out) ?_
        rotate_left
        · (intro wS hSw; (try dsimp only at hSw); go_simp; try with_reducible rfl)
        simp only [Act.put, List.getElem_toArray, List.getElem_cons_zero, List.getElem_cons_succ, List.setIfInBounds_toArray, List.set_cons_zero, List.set_cons_succ]
        refine wpAnyH_ready (rs := [2]) (by kernel_rfl) (by simp) ?_
        refine AllReadyH.cons rfl (fun K hK => ?_) AllReadyH.nil
        go_simp
        refine (JO.out _).mono ?_
        rintro e r1 ⟨rfl, hb⟩
        have LS1 := Lib.hid (Blk.next (w := v2.drew) LS0.out hb)
        have LC1 := Lib.hid (Blk.next (w := v2.drew) LC0.out hb)
        have E1 := Lib.hid (E0.out.trans (hb.mono E0.out.size))
        have HRP := Lib.hid (RdI.kept (w := v2.drew) HRP.out hb)
        clear hb
        go_wp2_with fail
        refine hK.out _ _ (sK _ LS1.out LC1.out) (fun hHeld => ?_)
        clear hK K hHeld
        try simp only [Act.put, List.getElem_toArray, List.getElem_cons_zero, List.getElem_cons_succ, List.setIfInBounds_toArray, List.set_cons_zero, List.set_cons_succ]
        refine wpAnyH_ready (rs := [6]) (by kernel_rfl) (by simp) ?_
        refine AllReadyH.cons rfl (fun K hK => ?_) AllReadyH.nil
        go_simp
        refine (JF.out _).mono ?_
        rintro e r2 ⟨rfl, hb⟩
        have LS2 := Lib.hid (Blk.next (w := r1) LS1.out hb)
        have LC2 := Lib.hid (Blk.next (w := r1) LC1.out hb)
        have E2 := Lib.hid (E1.out.trans (hb.mono E1.out.size))
        have HRP := Lib.hid (RdI.kept (w := r1) HRP.out hb)
        clear hb
        go_wp2_with fail
        refine hK.out _ _ (sK _ LS2.out LC2.out) (fun hHeld => ?_)
        clear hK K hHeld
        try simp only [Act.put, List.getElem_toArray, List.getElem_cons_zero, List.getElem_cons_succ, List.setIfInBounds_toArray, List.set_cons_zero, List.set_cons_succ]
        refine wpAnyH_take (i := 7) (v := ?_) rfl (by kernel_rfl) (by kernel_rfl) (by kernel_rfl) (fun _ _ _ h => h) (Or.inl ⟨by rfl, ?_⟩) (sK _ LS2.out LC2.out) ?_
        rotate_left
        · (intro wS hSw; (try dsimp only at hSw); go_simp; try with_reducible rfl)
        simp only [Act.put, List.getElem_toArray, List.getElem_cons_zero, List.getElem_cons_succ, List.setIfInBounds_toArray, List.set_cons_zero, List.set_cons_succ]
        refine wpAnyH_ready (rs := [13]) (by kernel_rfl) (by simp) ?_
        refine AllReadyH.cons rfl (fun K hK => ?_) AllReadyH.nil
        go_simp
        refine (JB.out vA vc _ HRP.out).mono ?_
        rintro e r3 ⟨rfl, hb⟩
        have LS3 := Lib.hid (Blk.next (w := r2) LS2.out hb)
        have LC3 := Lib.hid (Blk.next (w := r2) LC2.out hb)
        have E3 := Lib.hid (E2.out.trans (hb.mono E2.out.size))
        clear hb
        go_wp2_with fail
        refine hK.out _ _ (sK _ LS3.out LC3.out) (fun hHeld => ?_)
        clear hK K hHeld
        try simp only [Act.put, List.getElem_toArray, List.getElem_cons_zero, List.getElem_cons_succ, List.setIfInBounds_toArray, List.set_cons_zero, List.set_cons_succ]
        refine wpAnyH_take (i := 14) (v := ?_) rfl (by kernel_rfl) (by kernel_rfl) (by kernel_rfl) (fun _ _ _ h => h) (Or.inl ⟨by rfl, ?_⟩) (sK _ LS3.out LC3.out) ?_
        rotate_left
        · (intro wS hSw; (try dsimp only at hSw); go_simp; try with_reducible rfl)
        simp only [Act.put, List.getElem_toArray, List.getElem_cons_zero, List.getElem_cons_succ, List.setIfInBounds_toArray, List.set_cons_zero, List.set_cons_succ]
        refine wpAnyH_take (i := 15) (v := ?_) rfl (by kernel_rfl) (by kernel_rfl) (by kernel_rfl) (fun _ _ _ h => h) (Or.inl ⟨by rfl, ?_⟩) (sK _ LS3.out LC3.out) ?_
        rotate_left
        · (intro wS hSw; (try dsimp only at hSw); go_simp; try with_reducible rfl)
        simp only [Act.put, List.getElem_toArray, List.getElem_cons_zero, List.getElem_cons_succ, List.setIfInBounds_toArray, List.set_cons_zero, List.set_cons_succ]
        refine wpAnyH_take (i := 16) (v := ?_) rfl (by kernel_rfl) (by kernel_rfl) (by kernel_rfl) (fun _ _ _ h => h) (Or.inl ⟨by rfl, ?_⟩) (sK _ LS3.out LC3.out) ?_
        rotate_left
        · (intro wS hSw; (try dsimp only at hSw); go_simp; try with_reducible rfl)
        simp only [Act.put, List.getElem_toArray, List.getElem_cons_zero, List.getElem_cons_succ, List.setIfInBounds_toArray, List.set_cons_zero, List.set_cons_succ]
        refine wpAnyH_done (by kernel_rfl) ?_ _
        go_wp2_with fail
        try go_ret
        exact ⟨nret (by rw [HR.out, HM.out]), E3.out⟩
      · have hc0 : ((cn : Int) == 0) = false := by rw [beq_eq_false_iff_ne]; omega
        have HC0 := Lib.hid hcz
        have hdn : d = -1 ∨ d = 1 := by have := HG0.out; omega
        have AW3 := AW2 hdn
        clear AW2 hdn
        by_cases hu : u = -d
        · have hcm : decide (0 ≤ yv) = false := by simp only [decide_eq_false_iff_not]; exact fun h => AW3.1 h hu
          have hneg : yv < 0 := by simpa using hcm
          have HU := Lib.hid hu
          clear hu AW3
          have HR := Lib.hid (HE2.out (fun h => h.elim (fun h => HC0.out h) (fun h => h.1 HU.out)) HU.out)
          obtain ⟨ob, ooff, rfl, hltO, hcO⟩ := rdI_row HRO.out (by have := HONL.out; omega)
          have hcpos : 0 < cn := by omega
          have o0' := hcO 0 (by have := HONL.out; omega)
          have o00 : v2.cell? ⟨ob, ooff, none⟩ = some (.int .i64 (zat on 0)) := o0'
          clear hcO o0'
          obtain ⟨z0, hz0'⟩ : ∃ z, zat on 0 = z := ⟨_, rfl⟩
          have HZ0 := Lib.hid hz0'
          rw [hz0'] at o00
          clear hz0'
          go_wp2_with fail
          clear o00
          clear kS0 kS1 kS2 kS3 kS4 kS5 kS6 kS7 kS8 kS9 kS10 kS11 kS12 kC0 kC1 kC2 kC3 kC4 kC5 kT0 kT1
          obtain ⟨X1, hX1⟩ : ∃ X, v2 = X := ⟨_, rfl⟩
          rw [hX1] at HS HC HT EE HRP HRO ⊢
          clear hX1
          go_loopw [18, 19] (fun t i wr => ∃ k : Nat, k ≤ cn ∧ i = .int .i64 k ∧ t = .int .i64 (tnA on p k) ∧ Below X1.heap.size X1 wr) (fun _ i _ => cn - (intOf i).toNat)
          case atStart => exact ⟨0, by omega, rfl, by rw [← HZ0.out]; rfl, Below.refl _ _⟩
          case round =>
            obtain ⟨k, hk, rfl, rfl, hb⟩ := hrel
            by_cases h : k < cn
            · obtain ⟨ob', ooff', e', _, hc⟩ := rdI_row (HRO.out.kept hb) (by have := HONL.out; omega)
              cases e'
              have ck := hc k (by have := HONL.out; omega)
              have zb := HOB.out k h
              have tb := HTB.out k hcpos
              have ST : Hid (tnA on p (k + 1) = if farV (tnA on p k) p < farV (zat on k) p then zat on k else tnA on p k) := Lib.hid rfl
              obtain ⟨zv, hzv⟩ : ∃ z, zat on k = z := ⟨_, rfl⟩
              obtain ⟨tv, htv⟩ : ∃ z, tnA on p k = z := ⟨_, rfl⟩
              rw [hzv] at ck zb ST
              rw [htv] at tb ST ⊢
              clear hc hzv htv
              have KZ := fun w => rfar_any zv p w (by omega) (by omega) p0 (by omega)
              have KT := fun w => rfar_any tv p w (by omega) (by omega) p0 (by omega)
              obtain ⟨fz, hfz⟩ : ∃ z, farV zv p = z := ⟨_, rfl⟩
              obtain ⟨ft, hft⟩ : ∃ z, farV tv p = z := ⟨_, rfl⟩
              rw [hfz] at KZ ST
              rw [hft] at KT ST
              have JZ := Lib.hid KZ; have JT := Lib.hid KT
              clear KZ KT hfz hft
              have j0 : (0 : Int) ≤ (k : Int) := Int.natCast_nonneg _
              have j1 : (k : Int) < (cn : Int) := by omega
              have HCr := HC.out.next hb
              have f0 : wr.cell? ⟨w.heap.size + 1, 0, none⟩ = some (.int .i64 p) := HCr.cell 0
              have f1 : wr.cell? ⟨w.heap.size + 1, 1, none⟩ = some (.int .i64 d) := HCr.cell 1
              have f2 : wr.cell? ⟨w.heap.size + 1, 2, none⟩ = some (.int .i64 mo) := HCr.cell 2
              have f3 : wr.cell? ⟨w.heap.size + 1, 3, none⟩ = some (.int .i64 le) := HCr.cell 3
              have f4 : wr.cell? ⟨w.heap.size + 1, 4, none⟩ = some (.bool bw) := HCr.cell 4
              have f5 : wr.cell? ⟨w.heap.size + 1, 5, none⟩ = some (R) := HCr.cell 5
              clear HCr
              have HB := Lib.hid hb
              clear hb
              by_cases hlt : ft < fz
              · have SN : Hid (tnA on p (k + 1) = zv) := Lib.hid (by rw [ST.out, if_pos hlt])
                clear ST
                go_wp2_with fail
                go_region_held3 (fun X => X.cell? ⟨w.heap.size + 1, 0, none⟩ = some (.int .i64 p) ∧ X.cell? ⟨w.heap.size + 1, 1, none⟩ = some (.int .i64 d) ∧ X.cell? ⟨w.heap.size + 1, 2, none⟩ = some (.int .i64 mo) ∧ X.cell? ⟨w.heap.size + 1, 3, none⟩ = some (.int .i64 le) ∧ X.cell? ⟨w.heap.size + 1, 4, none⟩ = some (.bool bw) ∧ X.cell? ⟨w.heap.size + 1, 5, none⟩ = some (R) ∧ X.cell? ⟨ob, ooff + k, none⟩ = some (.int .i64 zv))
                  (go_keep)
                  (first
                    | (go_at_call 33; (with_reducible refine (JZ.out _).mono ?_); rintro e w' ⟨rfl, rfl⟩)
                    | (go_at_call 33; (with_reducible refine (JT.out _).mono ?_); rintro e w' ⟨rfl, rfl⟩))
                go_wp2_with fail
                go_roundw
                case rel => exact ⟨k + 1, by omega, by go_num, by rw [SN.out], HB.out.drew⟩
                case measure => simp [intOf]; omega
              · have SN : Hid (tnA on p (k + 1) = tv) := Lib.hid (by rw [ST.out, if_neg hlt])
                have hle : fz ≤ ft := by omega
                clear ST
                go_wp2_with fail
                go_region_held3 (fun X => X.cell? ⟨w.heap.size + 1, 0, none⟩ = some (.int .i64 p) ∧ X.cell? ⟨w.heap.size + 1, 1, none⟩ = some (.int .i64 d) ∧ X.cell? ⟨w.heap.size + 1, 2, none⟩ = some (.int .i64 mo) ∧ X.cell? ⟨w.heap.size + 1, 3, none⟩ = some (.int .i64 le) ∧ X.cell? ⟨w.heap.size + 1, 4, none⟩ = some (.bool bw) ∧ X.cell? ⟨w.heap.size + 1, 5, none⟩ = some (R) ∧ X.cell? ⟨ob, ooff + k, none⟩ = some (.int .i64 zv))
                  (go_keep)
                  (first
                    | (go_at_call 33; (with_reducible refine (JZ.out _).mono ?_); rintro e w' ⟨rfl, rfl⟩)
                    | (go_at_call 33; (with_reducible refine (JT.out _).mono ?_); rintro e w' ⟨rfl, rfl⟩))
                go_wp2_with fail
                go_roundw
                case rel => exact ⟨k + 1, by omega, by go_num, by rw [SN.out], HB.out.drew⟩
                case measure => simp [intOf]; omega
            · obtain rfl : k = cn := by omega
              have hk' : ¬ ((k : Int) < k) := by omega
              have HB := hb
              have HRP := Lib.hid (HRP.out.kept (w := X1) hb)
              have HS := Lib.hid (Blk.next (w := X1) HS.out hb)
              have HC := Lib.hid (Blk.next (w := X1) HC.out hb)
              have HT := Lib.hid (Blk.next (w := X1) HT.out hb)
              have EE := Lib.hid (EE.out.trans (hb.mono EE.out.size))
              clear hb
              have kS0 : wr.cell? ⟨w.heap.size, 0, none⟩ = some (.int .i64 (s 0)) := HS.out.cell 0
              have kS1 : wr.cell? ⟨w.heap.size, 1, none⟩ = some (.int .i64 gg) := HS.out.cell 1
              have kS2 : wr.cell? ⟨w.heap.size, 2, none⟩ = some (.int .i64 (s 2)) := HS.out.cell 2
              have kS3 : wr.cell? ⟨w.heap.size, 3, none⟩ = some (.int .i64 (s 3)) := HS.out.cell 3
              have kS4 : wr.cell? ⟨w.heap.size, 4, none⟩ = some (.int .i64 s4) := HS.out.cell 4
              have kS5 : wr.cell? ⟨w.heap.size, 5, none⟩ = some (.int .i64 s5) := HS.out.cell 5
              have kS6 : wr.cell? ⟨w.heap.size, 6, none⟩ = some (.int .i64 s6) := HS.out.cell 6
              have kS7 : wr.cell? ⟨w.heap.size, 7, none⟩ = some (.int .i64 s7) := HS.out.cell 7
              have kS8 : wr.cell? ⟨w.heap.size, 8, none⟩ = some (.slice A n c) := HS.out.cell 8
              have kS9 : wr.cell? ⟨w.heap.size, 9, none⟩ = some (.int .i64 (s 9)) := HS.out.cell 9
              have kS10 : wr.cell? ⟨w.heap.size, 10, none⟩ = some (.int .i64 (s 10)) := HS.out.cell 10
              have kS11 : wr.cell? ⟨w.heap.size, 11, none⟩ = some (.int .i64 (s 11)) := HS.out.cell 11
              have kS12 : wr.cell? ⟨w.heap.size, 12, none⟩ = some (.int .i64 (s 12)) := HS.out.cell 12
              have kC0 : wr.cell? ⟨w.heap.size + 1, 0, none⟩ = some (.int .i64 p) := HC.out.cell 0
              have kC1 : wr.cell? ⟨w.heap.size + 1, 1, none⟩ = some (.int .i64 d) := HC.out.cell 1
              have kC2 : wr.cell? ⟨w.heap.size + 1, 2, none⟩ = some (.int .i64 mo) := HC.out.cell 2
              have kC3 : wr.cell? ⟨w.heap.size + 1, 3, none⟩ = some (.int .i64 le) := HC.out.cell 3
              have kC4 : wr.cell? ⟨w.heap.size + 1, 4, none⟩ = some (.bool bw) := HC.out.cell 4
              have kC5 : wr.cell? ⟨w.heap.size + 1, 5, none⟩ = some (R) := HC.out.cell 5
              have kT0 : wr.cell? ⟨w.heap.size + 1 + 1, 0, none⟩ = some (.int .u64 x) := HT.out.cell 0
              have kT1 : wr.cell? ⟨w.heap.size + 1 + 1, 1, none⟩ = some (.int .u64 y) := HT.out.cell 1
              have htr := HTN.out hcpos
              rw [htr]
              have tb := HTB.out k hcpos
              rw [htr] at tb
              clear htr HB
              obtain ⟨t1, t2⟩ := tb
              have JF1 := Lib.hid (fun w => rfar_b p tr w p0 (by omega) t1 (by omega))
              have JF2 := Lib.hid (fun w => rfar_b tr m w t1 (by omega) m0 (by omega))
              have f1 := far_bd (p := p) (m := tr) p0 (by omega) t1 (by omega)
              have f2 := far_bd (p := tr) (m := m) t1 (by omega) m0 (by omega)
              obtain ⟨Y, hY⟩ : ∃ Y, farV p tr = Y := ⟨_, rfl⟩
              obtain ⟨Z, hZ⟩ : ∃ Y, farV tr m = Y := ⟨_, rfl⟩
              have HR0 := HR.out
              rw [hY] at HR0 JF1 f1
              rw [hZ] at HR0 JF2 f2
              obtain ⟨M, hM⟩ : ∃ M, st * ((k + N : Nat) : Int) = M := ⟨_, rfl⟩
              rw [hM] at P0 P1 HR0
              have hw1 : IntKind.i64.wrap (D + Y) = D + Y := IntWalk.i64_in _ (by omega)
              have hw2 : IntKind.i64.wrap (D + Y + Z) = D + Y + Z := IntWalk.i64_in _ (by omega)
              have hw3 : IntKind.i64.wrap (st * ((k : Int) + (N : Int))) = M := by rw [← hM, Int.natCast_add]; exact IntWalk.i64_in _ (by rw [← Int.natCast_add, hM]; omega)
              have hw4 : IntKind.i64.wrap (D + Y + Z + M) = D + Y + Z + M := IntWalk.i64_in _ (by omega)
              have HR2 := Lib.hid HR0
              clear HR0 HR hY hZ hM f1 f2 HE1 HE2 HE3
              have hcw : IntKind.i64.wrap ((k : Int) + (N : Int)) = (k : Int) + N := IntWalk.i64_in _ (by omega)
              go_wp2_with fail
              refine (JB.out vA vc _ HRP.out).mono ?_
              rintro e v3 ⟨rfl, hb⟩
              clear kS0 kS1 kS2 kS3 kS4 kS5 kS6 kS7 kS8 kS9 kS10 kS11 kS12 kC0 kC1 kC2 kC3 kC4 kC5 kT0 kT1
              have HS := Lib.hid (Blk.next (w := wr) HS.out hb)
              have HC := Lib.hid (Blk.next (w := wr) HC.out hb)
              have HT := Lib.hid (Blk.next (w := wr) HT.out hb)
              have EE := Lib.hid (EE.out.trans (hb.mono EE.out.size))
              clear hb
              have kS0 : v3.cell? ⟨w.heap.size, 0, none⟩ = some (.int .i64 (s 0)) := HS.out.cell 0
              have kS1 : v3.cell? ⟨w.heap.size, 1, none⟩ = some (.int .i64 gg) := HS.out.cell 1
              have kS2 : v3.cell? ⟨w.heap.size, 2, none⟩ = some (.int .i64 (s 2)) := HS.out.cell 2
              have kS3 : v3.cell? ⟨w.heap.size, 3, none⟩ = some (.int .i64 (s 3)) := HS.out.cell 3
              have kS4 : v3.cell? ⟨w.heap.size, 4, none⟩ = some (.int .i64 s4) := HS.out.cell 4
              have kS5 : v3.cell? ⟨w.heap.size, 5, none⟩ = some (.int .i64 s5) := HS.out.cell 5
              have kS6 : v3.cell? ⟨w.heap.size, 6, none⟩ = some (.int .i64 s6) := HS.out.cell 6
              have kS7 : v3.cell? ⟨w.heap.size, 7, none⟩ = some (.int .i64 s7) := HS.out.cell 7
              have kS8 : v3.cell? ⟨w.heap.size, 8, none⟩ = some (.slice A n c) := HS.out.cell 8
              have kS9 : v3.cell? ⟨w.heap.size, 9, none⟩ = some (.int .i64 (s 9)) := HS.out.cell 9
              have kS10 : v3.cell? ⟨w.heap.size, 10, none⟩ = some (.int .i64 (s 10)) := HS.out.cell 10
              have kS11 : v3.cell? ⟨w.heap.size, 11, none⟩ = some (.int .i64 (s 11)) := HS.out.cell 11
              have kS12 : v3.cell? ⟨w.heap.size, 12, none⟩ = some (.int .i64 (s 12)) := HS.out.cell 12
              have kC0 : v3.cell? ⟨w.heap.size + 1, 0, none⟩ = some (.int .i64 p) := HC.out.cell 0
              have kC1 : v3.cell? ⟨w.heap.size + 1, 1, none⟩ = some (.int .i64 d) := HC.out.cell 1
              have kC2 : v3.cell? ⟨w.heap.size + 1, 2, none⟩ = some (.int .i64 mo) := HC.out.cell 2
              have kC3 : v3.cell? ⟨w.heap.size + 1, 3, none⟩ = some (.int .i64 le) := HC.out.cell 3
              have kC4 : v3.cell? ⟨w.heap.size + 1, 4, none⟩ = some (.bool bw) := HC.out.cell 4
              have kC5 : v3.cell? ⟨w.heap.size + 1, 5, none⟩ = some (R) := HC.out.cell 5
              have kT0 : v3.cell? ⟨w.heap.size + 1 + 1, 0, none⟩ = some (.int .u64 x) := HT.out.cell 0
              have kT1 : v3.cell? ⟨w.heap.size + 1 + 1, 1, none⟩ = some (.int .u64 y) := HT.out.cell 1
              go_wp2_with fail
              have sK : ∀ X, Blk X (w.heap.size) 25 #[.int .i64 (s 0), .int .i64 gg, .int .i64 (s 2), .int .i64 (s 3), .int .i64 s4, .int .i64 s5, .int .i64 s6, .int .i64 s7, .slice A n c, .int .i64 (s 9), .int .i64 (s 10), .int .i64 (s 11), .int .i64 (s 12)] → Blk X (w.heap.size + 1) 36 #[.int .i64 p, .int .i64 d, .int .i64 mo, .int .i64 le, .bool bw, R] → (fun X => X.cell? ⟨w.heap.size, 0, none⟩ = some (.int .i64 (s 0)) ∧ X.cell? ⟨w.heap.size, 1, none⟩ = some (.int .i64 gg) ∧ X.cell? ⟨w.heap.size, 2, none⟩ = some (.int .i64 (s 2)) ∧ X.cell? ⟨w.heap.size, 3, none⟩ = some (.int .i64 (s 3)) ∧ X.cell? ⟨w.heap.size, 4, none⟩ = some (.int .i64 s4) ∧ X.cell? ⟨w.heap.size, 5, none⟩ = some (.int .i64 s5) ∧ X.cell? ⟨w.heap.size, 6, none⟩ = some (.int .i64 s6) ∧ X.cell? ⟨w.heap.size, 7, none⟩ = some (.int .i64 s7) ∧ X.cell? ⟨w.heap.size, 8, none⟩ = some (.slice A n c) ∧ X.cell? ⟨w.heap.size, 9, none⟩ = some (.int .i64 (s 9)) ∧ X.cell? ⟨w.heap.size, 10, none⟩ = some (.int .i64 (s 10)) ∧ X.cell? ⟨w.heap.size, 11, none⟩ = some (.int .i64 (s 11)) ∧ X.cell? ⟨w.heap.size, 12, none⟩ = some (.int .i64 (s 12)) ∧ X.cell? ⟨w.heap.size + 1, 0, none⟩ = some (.int .i64 p) ∧ X.cell? ⟨w.heap.size + 1, 1, none⟩ = some (.int .i64 d) ∧ X.cell? ⟨w.heap.size + 1, 2, none⟩ = some (.int .i64 mo) ∧ X.cell? ⟨w.heap.size + 1, 3, none⟩ = some (.int .i64 le) ∧ X.cell? ⟨w.heap.size + 1, 4, none⟩ = some (.bool bw) ∧ X.cell? ⟨w.heap.size + 1, 5, none⟩ = some (R)) X := fun X hS hC => ⟨hS.cell 0, hS.cell 1, hS.cell 2, hS.cell 3, hS.cell 4, hS.cell 5, hS.cell 6, hS.cell 7, hS.cell 8, hS.cell 9, hS.cell 10, hS.cell 11, hS.cell 12, hC.cell 0, hC.cell 1, hC.cell 2, hC.cell 3, hC.cell 4, hC.cell 5⟩
              have LS0 := Lib.hid (HS.out.drew)
              have LC0 := Lib.hid (HC.out.drew)
              have E0 := Lib.hid (EE.out.drew)
              clear kS0 kS1 kS2 kS3 kS4 kS5 kS6 kS7 kS8 kS9 kS10 kS11 kS12 kC0 kC1 kC2 kC3 kC4 kC5 kT0 kT1
              refine wp_region_held_drew (S := (fun X => X.cell? ⟨w.heap.size, 0, none⟩ = some (.int .i64 (s 0)) ∧ X.cell? ⟨w.heap.size, 1, none⟩ = some (.int .i64 gg) ∧ X.cell? ⟨w.heap.size, 2, none⟩ = some (.int .i64 (s 2)) ∧ X.cell? ⟨w.heap.size, 3, none⟩ = some (.int .i64 (s 3)) ∧ X.cell? ⟨w.heap.size, 4, none⟩ = some (.int .i64 s4) ∧ X.cell? ⟨w.heap.size, 5, none⟩ = some (.int .i64 s5) ∧ X.cell? ⟨w.heap.size, 6, none⟩ = some (.int .i64 s6) ∧ X.cell? ⟨w.heap.size, 7, none⟩ = some (.int .i64 s7) ∧ X.cell? ⟨w.heap.size, 8, none⟩ = some (.slice A n c) ∧ X.cell? ⟨w.heap.size, 9, none⟩ = some (.int .i64 (s 9)) ∧ X.cell? ⟨w.heap.size, 10, none⟩ = some (.int .i64 (s 10)) ∧ X.cell? ⟨w.heap.size, 11, none⟩ = some (.int .i64 (s 11)) ∧ X.cell? ⟨w.heap.size, 12, none⟩ = some (.int .i64 (s 12)) ∧ X.cell? ⟨w.heap.size + 1, 0, none⟩ = some (.int .i64 p) ∧ X.cell? ⟨w.heap.size + 1, 1, none⟩ = some (.int .i64 d) ∧ X.cell? ⟨w.heap.size + 1, 2, none⟩ = some (.int .i64 mo) ∧ X.cell? ⟨w.heap.size + 1, 3, none⟩ = some (.int .i64 le) ∧ X.cell? ⟨w.heap.size + 1, 4, none⟩ = some (.bool bw) ∧ X.cell? ⟨w.heap.size + 1, 5, none⟩ = some (R))) (by kernel_rfl) (sK _ LS0.out LC0.out) (fun hHeld => ?_)
              clear hHeld
              refine wpAnyH_take (i := 0) (v := ?_) rfl (by kernel_rfl) (by kernel_rfl) (by kernel_rfl) (fun _ _ _ h => h) (Or.inl ⟨by rfl, ?_⟩) (sK _ LS0.out LC0.out) ?_
              rotate_left
              · (intro wS hSw; (try dsimp only at hSw); go_simp; try with_reducible rfl)
              simp only [Act.put, List.getElem_toArray, List.getElem_cons_zero, List.getElem_cons_succ, List.setIfInBounds_toArray, List.set_cons_zero, List.set_cons_succ]
              refine wpAnyH_take (i := 1) (v := ?_) rfl (by kernel_rfl) (by kernel_rfl) (by kernel_rfl) (fun _ _ _ h => h) (Or.inl ⟨by rfl, ?_⟩) (sK _ LS0.out LC0.out) ?_
              rotate_left
              · (intro wS hSw; (try dsimp only at hSw); go_simp; try with_reducible rfl)
              simp only [Act.put, List.getElem_toArray, List.getElem_cons_zero, List.getElem_cons_succ, List.setIfInBounds_toArray, List.set_cons_zero, List.set_cons_succ]
              refine wpAnyH_take (i := 3) (v := ?_) rfl (by kernel_rfl) (by kernel_rfl) (by kernel_rfl) (fun _ _ _ h => h) (Or.inl ⟨by rfl, ?_⟩) (sK _ LS0.out LC0.out) ?_
              rotate_left
              · (intro wS hSw; (try dsimp only at hSw); go_simp; try with_reducible rfl)
              simp only [Act.put, List.getElem_toArray, List.getElem_cons_zero, List.getElem_cons_succ, List.setIfInBounds_toArray, List.set_cons_zero, List.set_cons_succ]
              refine wpAnyH_take (i := 4) (v := ?_) rfl (by kernel_rfl) (by kernel_rfl) (by kernel_rfl) (fun _ _ _ h => h) (Or.inl ⟨by rfl, ?_⟩) (sK _ LS0.out LC0.out) ?_
              rotate_left
              · (intro wS hSw; (try dsimp only at hSw); go_simp; try with_reducible rfl)
              simp only [Act.put, List.getElem_toArray, List.getElem_cons_zero, List.getElem_cons_succ, List.setIfInBounds_toArray, List.set_cons_zero, List.set_cons_succ]
              refine wpAnyH_take (i := 5) (v := ?_) rfl (by kernel_rfl) (by kernel_rfl) (by kernel_rfl) (fun _ _ _ h => h) (Or.inl ⟨by rfl, ?_⟩) (sK _ LS0.out LC0.out) ?_
              rotate_left
              · (intro wS hSw; (try dsimp only at hSw); go_simp; try with_reducible rfl)
              simp only [Act.put, List.getElem_toArray, List.getElem_cons_zero, List.getElem_cons_succ, List.setIfInBounds_toArray, List.set_cons_zero, List.set_cons_succ]
              refine wpAnyH_take (i := 8) (v := ?_) rfl (by kernel_rfl) (by kernel_rfl) (by kernel_rfl) (fun _ _ _ h => h) (Or.inl ⟨by rfl, ?_⟩) (sK _ LS0.out LC0.out) ?_
              rotate_left
              · (intro wS hSw; (try dsimp only at hSw); go_simp; try with_reducible rfl)
              simp only [Act.put, List.getElem_toArray, List.getElem_cons_zero, List.getElem_cons_succ, List.setIfInBounds_toArray, List.set_cons_zero, List.set_cons_succ]
              refine wpAnyH_take (i := 9) (v := ?_) rfl (by kernel_rfl) (by kernel_rfl) (by kernel_rfl) (fun _ _ _ h => h) (Or.inl ⟨by rfl, ?_⟩) (sK _ LS0.out LC0.out) ?_
              rotate_left
              · (intro wS hSw; (try dsimp only at hSw); go_simp; try with_reducible rfl)
              simp only [Act.put, List.getElem_toArray, List.getElem_cons_zero, List.getElem_cons_succ, List.setIfInBounds_toArray, List.set_cons_zero, List.set_cons_succ]
              refine wpAnyH_take (i := 12) (v := ?_) rfl (by kernel_rfl) (by kernel_rfl) (by kernel_rfl) (fun _ _ _ h => h) (Or.inl ⟨by rfl, ?_⟩) (sK _ LS0.out LC0.out) ?_
              rotate_left
              · (intro wS hSw; (try dsimp only at hSw); go_simp; try with_reducible rfl)
              simp only [Act.put, List.getElem_toArray, List.getElem_cons_zero, List.getElem_cons_succ, List.setIfInBounds_toArray, List.set_cons_zero, List.set_cons_succ]
              refine wpAnyH_take (i := 13) (v := ?_) rfl (by kernel_rfl) (by kernel_rfl) (by kernel_rfl) (fun _ _ _ h => h) (Or.inl ⟨by rfl, ?_⟩) (sK _ LS0.out LC0.out) ?_
              rotate_left
              · (intro wS hSw; (try dsimp only at hSw); go_simp; try with_reducible rfl)
              simp only [Act.put, List.getElem_toArray, List.getElem_cons_zero, List.getElem_cons_succ, List.setIfInBounds_toArray, List.set_cons_zero, List.set_cons_succ]
              refine wpAnyH_take (i := 14) (v := ?_) rfl (by kernel_rfl) (by kernel_rfl) (by kernel_rfl) (fun _ _ _ h => h) (Or.inl ⟨by rfl, ?_⟩) (sK _ LS0.out LC0.out) ?_
              rotate_left
              · (intro wS hSw; (try dsimp only at hSw); go_simp; try with_reducible rfl)
              simp only [Act.put, List.getElem_toArray, List.getElem_cons_zero, List.getElem_cons_succ, List.setIfInBounds_toArray, List.set_cons_zero, List.set_cons_succ]
              refine wpAnyH_ready (rs := [2]) (by kernel_rfl) (by simp) ?_
              refine AllReadyH.cons rfl (fun K hK => ?_) AllReadyH.nil
              go_simp
              refine (JO.out _).mono ?_
              rintro e r1 ⟨rfl, hb⟩
              have LS1 := Lib.hid (Blk.next (w := v3.drew) LS0.out hb)
              have LC1 := Lib.hid (Blk.next (w := v3.drew) LC0.out hb)
              have E1 := Lib.hid (E0.out.trans (hb.mono E0.out.size))
              clear hb
              go_wp2_with fail
              refine hK.out _ _ (sK _ LS1.out LC1.out) (fun hHeld => ?_)
              clear hK K hHeld
              try simp only [Act.put, List.getElem_toArray, List.getElem_cons_zero, List.getElem_cons_succ, List.setIfInBounds_toArray, List.set_cons_zero, List.set_cons_succ]
              refine wpAnyH_ready (rs := [6]) (by kernel_rfl) (by simp) ?_
              refine AllReadyH.cons rfl (fun K hK => ?_) AllReadyH.nil
              go_simp
              refine (JF1.out _).mono ?_
              rintro e r2 ⟨rfl, hb⟩
              have LS2 := Lib.hid (Blk.next (w := r1) LS1.out hb)
              have LC2 := Lib.hid (Blk.next (w := r1) LC1.out hb)
              have E2 := Lib.hid (E1.out.trans (hb.mono E1.out.size))
              clear hb
              go_wp2_with fail
              refine hK.out _ _ (sK _ LS2.out LC2.out) (fun hHeld => ?_)
              clear hK K hHeld
              try simp only [Act.put, List.getElem_toArray, List.getElem_cons_zero, List.getElem_cons_succ, List.setIfInBounds_toArray, List.set_cons_zero, List.set_cons_succ]
              refine wpAnyH_take (i := 7) (v := ?_) rfl (by kernel_rfl) (by kernel_rfl) (by kernel_rfl) (fun _ _ _ h => h) (Or.inl ⟨by rfl, ?_⟩) (sK _ LS2.out LC2.out) ?_
              rotate_left
              · (intro wS hSw; (try dsimp only at hSw); go_simp; try with_reducible rfl)
              simp only [Act.put, List.getElem_toArray, List.getElem_cons_zero, List.getElem_cons_succ, List.setIfInBounds_toArray, List.set_cons_zero, List.set_cons_succ]
              refine wpAnyH_ready (rs := [10]) (by kernel_rfl) (by simp) ?_
              refine AllReadyH.cons rfl (fun K hK => ?_) AllReadyH.nil
              go_simp
              refine (JF2.out _).mono ?_
              rintro e r3 ⟨rfl, hb⟩
              have LS3 := Lib.hid (Blk.next (w := r2) LS2.out hb)
              have LC3 := Lib.hid (Blk.next (w := r2) LC2.out hb)
              have E3 := Lib.hid (E2.out.trans (hb.mono E2.out.size))
              clear hb
              go_wp2_with fail
              refine hK.out _ _ (sK _ LS3.out LC3.out) (fun hHeld => ?_)
              clear hK K hHeld
              try simp only [Act.put, List.getElem_toArray, List.getElem_cons_zero, List.getElem_cons_succ, List.setIfInBounds_toArray, List.set_cons_zero, List.set_cons_succ]
              refine wpAnyH_take (i := 11) (v := ?_) rfl (by kernel_rfl) (by kernel_rfl) (by kernel_rfl) (fun _ _ _ h => h) (Or.inl ⟨by rfl, ?_⟩) (sK _ LS3.out LC3.out) ?_
              rotate_left
              · (intro wS hSw; (try dsimp only at hSw); go_simp; try with_reducible rfl)
              simp only [Act.put, List.getElem_toArray, List.getElem_cons_zero, List.getElem_cons_succ, List.setIfInBounds_toArray, List.set_cons_zero, List.set_cons_succ]
              refine wpAnyH_take (i := 15) (v := ?_) rfl (by kernel_rfl) (by kernel_rfl) (by kernel_rfl) (fun _ _ _ h => h) (Or.inl ⟨by rfl, ?_⟩) (sK _ LS3.out LC3.out) ?_
              rotate_left
              · (intro wS hSw; (try dsimp only at hSw); go_simp; try with_reducible rfl)
              simp only [Act.put, List.getElem_toArray, List.getElem_cons_zero, List.getElem_cons_succ, List.setIfInBounds_toArray, List.set_cons_zero, List.set_cons_succ]
              refine wpAnyH_take (i := 16) (v := ?_) rfl (by kernel_rfl) (by kernel_rfl) (by kernel_rfl) (fun _ _ _ h => h) (Or.inl ⟨by rfl, ?_⟩) (sK _ LS3.out LC3.out) ?_
              rotate_left
              · (intro wS hSw; (try dsimp only at hSw); go_simp; try with_reducible rfl)
              simp only [Act.put, List.getElem_toArray, List.getElem_cons_zero, List.getElem_cons_succ, List.setIfInBounds_toArray, List.set_cons_zero, List.set_cons_succ]
              refine wpAnyH_done (by kernel_rfl) ?_ _
              go_wp2_with fail
              try go_ret
              exact ⟨nret (by rw [HR2.out]), E3.out⟩
        · have hpos : 0 ≤ yv := AW3.2 hu
          have hcm : decide (0 ≤ yv) = true := by simpa using hpos
          have HU := Lib.hid hu
          clear hu AW3
          by_cases hdr : dir = d
          · have hdd : (dir == d) = true := by simp [hdr]
            have HDD := Lib.hid hdr
            clear hdr
            go_wp2_with fail
            have HR : Hid (RES = D + X + st * (N : Int)) := Lib.hid (HE1.out (.inr ⟨HU.out, .inl HDD.out⟩))
            clear HE1 HE2 HE3
            obtain ⟨M, hM⟩ : ∃ M, st * (N : Int) = M := ⟨_, rfl⟩
            rw [hM] at M0 M1
            have hw1 : IntKind.i64.wrap (D + X) = D + X := IntWalk.i64_in _ (by omega)
            have hw2 : IntKind.i64.wrap (st * (N : Int)) = M := by rw [hM]; exact IntWalk.i64_in _ (by omega)
            have hw3 : IntKind.i64.wrap (D + X + M) = D + X + M := IntWalk.i64_in _ (by omega)
            have HM := Lib.hid hM
            clear hM
            go_wp2_with fail
            have HRPd : RdI v2.drew .i64 vA (plL l gg k) := rdI_drew HRP.out 1
            replace HRP := Lib.hid HRPd
            clear HRPd
            have sK : ∀ X, Blk X (w.heap.size) 25 #[.int .i64 (s 0), .int .i64 gg, .int .i64 (s 2), .int .i64 (s 3), .int .i64 s4, .int .i64 s5, .int .i64 s6, .int .i64 s7, .slice A n c, .int .i64 (s 9), .int .i64 (s 10), .int .i64 (s 11), .int .i64 (s 12)] → Blk X (w.heap.size + 1) 36 #[.int .i64 p, .int .i64 d, .int .i64 mo, .int .i64 le, .bool bw, R] → (fun X => X.cell? ⟨w.heap.size, 0, none⟩ = some (.int .i64 (s 0)) ∧ X.cell? ⟨w.heap.size, 1, none⟩ = some (.int .i64 gg) ∧ X.cell? ⟨w.heap.size, 2, none⟩ = some (.int .i64 (s 2)) ∧ X.cell? ⟨w.heap.size, 3, none⟩ = some (.int .i64 (s 3)) ∧ X.cell? ⟨w.heap.size, 4, none⟩ = some (.int .i64 s4) ∧ X.cell? ⟨w.heap.size, 5, none⟩ = some (.int .i64 s5) ∧ X.cell? ⟨w.heap.size, 6, none⟩ = some (.int .i64 s6) ∧ X.cell? ⟨w.heap.size, 7, none⟩ = some (.int .i64 s7) ∧ X.cell? ⟨w.heap.size, 8, none⟩ = some (.slice A n c) ∧ X.cell? ⟨w.heap.size, 9, none⟩ = some (.int .i64 (s 9)) ∧ X.cell? ⟨w.heap.size, 10, none⟩ = some (.int .i64 (s 10)) ∧ X.cell? ⟨w.heap.size, 11, none⟩ = some (.int .i64 (s 11)) ∧ X.cell? ⟨w.heap.size, 12, none⟩ = some (.int .i64 (s 12)) ∧ X.cell? ⟨w.heap.size + 1, 0, none⟩ = some (.int .i64 p) ∧ X.cell? ⟨w.heap.size + 1, 1, none⟩ = some (.int .i64 d) ∧ X.cell? ⟨w.heap.size + 1, 2, none⟩ = some (.int .i64 mo) ∧ X.cell? ⟨w.heap.size + 1, 3, none⟩ = some (.int .i64 le) ∧ X.cell? ⟨w.heap.size + 1, 4, none⟩ = some (.bool bw) ∧ X.cell? ⟨w.heap.size + 1, 5, none⟩ = some (R)) X := fun X hS hC => ⟨hS.cell 0, hS.cell 1, hS.cell 2, hS.cell 3, hS.cell 4, hS.cell 5, hS.cell 6, hS.cell 7, hS.cell 8, hS.cell 9, hS.cell 10, hS.cell 11, hS.cell 12, hC.cell 0, hC.cell 1, hC.cell 2, hC.cell 3, hC.cell 4, hC.cell 5⟩
            have LS0 := Lib.hid (HS.out.drew)
            have LC0 := Lib.hid (HC.out.drew)
            have E0 := Lib.hid (EE.out.drew)
            clear kS0 kS1 kS2 kS3 kS4 kS5 kS6 kS7 kS8 kS9 kS10 kS11 kS12 kC0 kC1 kC2 kC3 kC4 kC5 kT0 kT1
            refine wp_region_held_drew (S := (fun X => X.cell? ⟨w.heap.size, 0, none⟩ = some (.int .i64 (s 0)) ∧ X.cell? ⟨w.heap.size, 1, none⟩ = some (.int .i64 gg) ∧ X.cell? ⟨w.heap.size, 2, none⟩ = some (.int .i64 (s 2)) ∧ X.cell? ⟨w.heap.size, 3, none⟩ = some (.int .i64 (s 3)) ∧ X.cell? ⟨w.heap.size, 4, none⟩ = some (.int .i64 s4) ∧ X.cell? ⟨w.heap.size, 5, none⟩ = some (.int .i64 s5) ∧ X.cell? ⟨w.heap.size, 6, none⟩ = some (.int .i64 s6) ∧ X.cell? ⟨w.heap.size, 7, none⟩ = some (.int .i64 s7) ∧ X.cell? ⟨w.heap.size, 8, none⟩ = some (.slice A n c) ∧ X.cell? ⟨w.heap.size, 9, none⟩ = some (.int .i64 (s 9)) ∧ X.cell? ⟨w.heap.size, 10, none⟩ = some (.int .i64 (s 10)) ∧ X.cell? ⟨w.heap.size, 11, none⟩ = some (.int .i64 (s 11)) ∧ X.cell? ⟨w.heap.size, 12, none⟩ = some (.int .i64 (s 12)) ∧ X.cell? ⟨w.heap.size + 1, 0, none⟩ = some (.int .i64 p) ∧ X.cell? ⟨w.heap.size + 1, 1, none⟩ = some (.int .i64 d) ∧ X.cell? ⟨w.heap.size + 1, 2, none⟩ = some (.int .i64 mo) ∧ X.cell? ⟨w.heap.size + 1, 3, none⟩ = some (.int .i64 le) ∧ X.cell? ⟨w.heap.size + 1, 4, none⟩ = some (.bool bw) ∧ X.cell? ⟨w.heap.size + 1, 5, none⟩ = some (R))) (by kernel_rfl) (sK _ LS0.out LC0.out) (fun hHeld => ?_)
            clear hHeld
            refine wpAnyH_take (i := 0) (v := ?_) rfl (by kernel_rfl) (by kernel_rfl) (by kernel_rfl) (fun _ _ _ h => h) (Or.inl ⟨by rfl, ?_⟩) (sK _ LS0.out LC0.out) ?_
            rotate_left
            · (intro wS hSw; (try dsimp only at hSw); go_simp; try with_reducible rfl)
            simp only [Act.put, List.getElem_toArray, List.getElem_cons_zero, List.getElem_cons_succ, List.setIfInBounds_toArray, List.set_cons_zero, List.set_cons_succ]
            refine wpAnyH_take (i := 1) (v := ?_) rfl (by kernel_rfl) (by kernel_rfl) (by kernel_rfl) (fun _ _ _ h => h) (Or.inl ⟨by rfl, ?_⟩) (sK _ LS0.out LC0.out) ?_
            rotate_left
            · (intro wS hSw; (try dsimp only at hSw); go_simp; try with_reducible rfl)
            simp only [Act.put, List.getElem_toArray, List.getElem_cons_zero, List.getElem_cons_succ, List.setIfInBounds_toArray, List.set_cons_zero, List.set_cons_succ]
            refine wpAnyH_take (i := 3) (v := ?_) rfl (by kernel_rfl) (by kernel_rfl) (by kernel_rfl) (fun _ _ _ h => h) (Or.inl ⟨by rfl, ?_⟩) (sK _ LS0.out LC0.out) ?_
            rotate_left
            · (intro wS hSw; (try dsimp only at hSw); go_simp; try with_reducible rfl)
            simp only [Act.put, List.getElem_toArray, List.getElem_cons_zero, List.getElem_cons_succ, List.setIfInBounds_toArray, List.set_cons_zero, List.set_cons_succ]
            refine wpAnyH_take (i := 4) (v := ?_) rfl (by kernel_rfl) (by kernel_rfl) (by kernel_rfl) (fun _ _ _ h => h) (Or.inl ⟨by rfl, ?_⟩) (sK _ LS0.out LC0.out) ?_
            rotate_left
            · (intro wS hSw; (try dsimp only at hSw); go_simp; try with_reducible rfl)
            simp only [Act.put, List.getElem_toArray, List.getElem_cons_zero, List.getElem_cons_succ, List.setIfInBounds_toArray, List.set_cons_zero, List.set_cons_succ]
            refine wpAnyH_take (i := 5) (v := ?_) rfl (by kernel_rfl) (by kernel_rfl) (by kernel_rfl) (fun _ _ _ h => h) (Or.inl ⟨by rfl, ?_⟩) (sK _ LS0.out LC0.out) ?_
            rotate_left
            · (intro wS hSw; (try dsimp only at hSw); go_simp; try with_reducible rfl)
            simp only [Act.put, List.getElem_toArray, List.getElem_cons_zero, List.getElem_cons_succ, List.setIfInBounds_toArray, List.set_cons_zero, List.set_cons_succ]
            refine wpAnyH_take (i := 8) (v := ?_) rfl (by kernel_rfl) (by kernel_rfl) (by kernel_rfl) (fun _ _ _ h => h) (Or.inl ⟨by rfl, ?_⟩) (sK _ LS0.out LC0.out) ?_
            rotate_left
            · (intro wS hSw; (try dsimp only at hSw); go_simp; try with_reducible rfl)
            simp only [Act.put, List.getElem_toArray, List.getElem_cons_zero, List.getElem_cons_succ, List.setIfInBounds_toArray, List.set_cons_zero, List.set_cons_succ]
            refine wpAnyH_take (i := 9) (v := ?_) rfl (by kernel_rfl) (by kernel_rfl) (by kernel_rfl) (fun _ _ _ h => h) (Or.inl ⟨by rfl, ?_⟩) (sK _ LS0.out LC0.out) ?_
            rotate_left
            · (intro wS hSw; (try dsimp only at hSw); go_simp; try with_reducible rfl)
            simp only [Act.put, List.getElem_toArray, List.getElem_cons_zero, List.getElem_cons_succ, List.setIfInBounds_toArray, List.set_cons_zero, List.set_cons_succ]
            refine wpAnyH_take (i := 10) (v := ?_) rfl (by kernel_rfl) (by kernel_rfl) (by kernel_rfl) (fun _ _ _ h => h) (Or.inl ⟨by rfl, ?_⟩) (sK _ LS0.out LC0.out) ?_
            rotate_left
            · (intro wS hSw; (try dsimp only at hSw); go_simp; try with_reducible rfl)
            simp only [Act.put, List.getElem_toArray, List.getElem_cons_zero, List.getElem_cons_succ, List.setIfInBounds_toArray, List.set_cons_zero, List.set_cons_succ]
            refine wpAnyH_take (i := 11) (v := ?_) rfl (by kernel_rfl) (by kernel_rfl) (by kernel_rfl) (fun _ _ _ h => h) (Or.inl ⟨by rfl, ?_⟩) (sK _ LS0.out LC0.out) ?_
            rotate_left
            · (intro wS hSw; (try dsimp only at hSw); go_simp; try with_reducible rfl)
            simp only [Act.put, List.getElem_toArray, List.getElem_cons_zero, List.getElem_cons_succ, List.setIfInBounds_toArray, List.set_cons_zero, List.set_cons_succ]
            refine wpAnyH_take (i := 12) (v := ?_) rfl (by kernel_rfl) (by kernel_rfl) (by kernel_rfl) (fun _ _ _ h => h) (Or.inl ⟨by rfl, ?_⟩) (sK _ LS0.out LC0.out) ?_
            rotate_left
            · (intro wS hSw; (try dsimp only at hSw); go_simp; try with_reducible rfl)
            simp only [Act.put, List.getElem_toArray, List.getElem_cons_zero, List.getElem_cons_succ, List.setIfInBounds_toArray, List.set_cons_zero, List.set_cons_succ]
            refine wpAnyH_ready (rs := [2]) (by kernel_rfl) (by simp) ?_
            refine AllReadyH.cons rfl (fun K hK => ?_) AllReadyH.nil
            go_simp
            refine (JO.out _).mono ?_
            rintro e r1 ⟨rfl, hb⟩
            have LS1 := Lib.hid (Blk.next (w := v2.drew) LS0.out hb)
            have LC1 := Lib.hid (Blk.next (w := v2.drew) LC0.out hb)
            have E1 := Lib.hid (E0.out.trans (hb.mono E0.out.size))
            have HRP := Lib.hid (RdI.kept (w := v2.drew) HRP.out hb)
            clear hb
            go_wp2_with fail
            refine hK.out _ _ (sK _ LS1.out LC1.out) (fun hHeld => ?_)
            clear hK K hHeld
            try simp only [Act.put, List.getElem_toArray, List.getElem_cons_zero, List.getElem_cons_succ, List.setIfInBounds_toArray, List.set_cons_zero, List.set_cons_succ]
            refine wpAnyH_ready (rs := [6]) (by kernel_rfl) (by simp) ?_
            refine AllReadyH.cons rfl (fun K hK => ?_) AllReadyH.nil
            go_simp
            refine (JF.out _).mono ?_
            rintro e r2 ⟨rfl, hb⟩
            have LS2 := Lib.hid (Blk.next (w := r1) LS1.out hb)
            have LC2 := Lib.hid (Blk.next (w := r1) LC1.out hb)
            have E2 := Lib.hid (E1.out.trans (hb.mono E1.out.size))
            have HRP := Lib.hid (RdI.kept (w := r1) HRP.out hb)
            clear hb
            go_wp2_with fail
            refine hK.out _ _ (sK _ LS2.out LC2.out) (fun hHeld => ?_)
            clear hK K hHeld
            try simp only [Act.put, List.getElem_toArray, List.getElem_cons_zero, List.getElem_cons_succ, List.setIfInBounds_toArray, List.set_cons_zero, List.set_cons_succ]
            refine wpAnyH_take (i := 7) (v := ?_) rfl (by kernel_rfl) (by kernel_rfl) (by kernel_rfl) (fun _ _ _ h => h) (Or.inl ⟨by rfl, ?_⟩) (sK _ LS2.out LC2.out) ?_
            rotate_left
            · (intro wS hSw; (try dsimp only at hSw); go_simp; try with_reducible rfl)
            simp only [Act.put, List.getElem_toArray, List.getElem_cons_zero, List.getElem_cons_succ, List.setIfInBounds_toArray, List.set_cons_zero, List.set_cons_succ]
            refine wpAnyH_ready (rs := [13]) (by kernel_rfl) (by simp) ?_
            refine AllReadyH.cons rfl (fun K hK => ?_) AllReadyH.nil
            go_simp
            refine (JB.out vA vc _ HRP.out).mono ?_
            rintro e r3 ⟨rfl, hb⟩
            have LS3 := Lib.hid (Blk.next (w := r2) LS2.out hb)
            have LC3 := Lib.hid (Blk.next (w := r2) LC2.out hb)
            have E3 := Lib.hid (E2.out.trans (hb.mono E2.out.size))
            clear hb
            go_wp2_with fail
            refine hK.out _ _ (sK _ LS3.out LC3.out) (fun hHeld => ?_)
            clear hK K hHeld
            try simp only [Act.put, List.getElem_toArray, List.getElem_cons_zero, List.getElem_cons_succ, List.setIfInBounds_toArray, List.set_cons_zero, List.set_cons_succ]
            refine wpAnyH_take (i := 14) (v := ?_) rfl (by kernel_rfl) (by kernel_rfl) (by kernel_rfl) (fun _ _ _ h => h) (Or.inl ⟨by rfl, ?_⟩) (sK _ LS3.out LC3.out) ?_
            rotate_left
            · (intro wS hSw; (try dsimp only at hSw); go_simp; try with_reducible rfl)
            simp only [Act.put, List.getElem_toArray, List.getElem_cons_zero, List.getElem_cons_succ, List.setIfInBounds_toArray, List.set_cons_zero, List.set_cons_succ]
            refine wpAnyH_take (i := 15) (v := ?_) rfl (by kernel_rfl) (by kernel_rfl) (by kernel_rfl) (fun _ _ _ h => h) (Or.inl ⟨by rfl, ?_⟩) (sK _ LS3.out LC3.out) ?_
            rotate_left
            · (intro wS hSw; (try dsimp only at hSw); go_simp; try with_reducible rfl)
            simp only [Act.put, List.getElem_toArray, List.getElem_cons_zero, List.getElem_cons_succ, List.setIfInBounds_toArray, List.set_cons_zero, List.set_cons_succ]
            refine wpAnyH_take (i := 16) (v := ?_) rfl (by kernel_rfl) (by kernel_rfl) (by kernel_rfl) (fun _ _ _ h => h) (Or.inl ⟨by rfl, ?_⟩) (sK _ LS3.out LC3.out) ?_
            rotate_left
            · (intro wS hSw; (try dsimp only at hSw); go_simp; try with_reducible rfl)
            simp only [Act.put, List.getElem_toArray, List.getElem_cons_zero, List.getElem_cons_succ, List.setIfInBounds_toArray, List.set_cons_zero, List.set_cons_succ]
            refine wpAnyH_done (by kernel_rfl) ?_ _
            go_wp2_with fail
            try go_ret
            exact ⟨nret (by rw [HR.out, HM.out]), E3.out⟩
          · have hdd : (dir == d) = false := by rw [beq_eq_false_iff_ne]; exact hdr
            have HDD := Lib.hid hdr
            clear hdr
            go_wp2_with fail
            refine (JH2.out vA vc _ HRP.out).mono ?_
            rintro e v3 ⟨OB2, oc2, rfl, hR2, hb⟩
            clear hR2
            have HRP := Lib.hid (RdI.kept (w := v2) HRP.out hb)
            have HRO := Lib.hid (RdI.kept (w := v2) HRO.out hb)
            clear kS0 kS1 kS2 kS3 kS4 kS5 kS6 kS7 kS8 kS9 kS10 kS11 kS12 kC0 kC1 kC2 kC3 kC4 kC5 kT0 kT1
            have HS := Lib.hid (Blk.next (w := v2) HS.out hb)
            have HC := Lib.hid (Blk.next (w := v2) HC.out hb)
            have HT := Lib.hid (Blk.next (w := v2) HT.out hb)
            have EE := Lib.hid (EE.out.trans (hb.mono EE.out.size))
            clear hb
            have kS0 : v3.cell? ⟨w.heap.size, 0, none⟩ = some (.int .i64 (s 0)) := HS.out.cell 0
            have kS1 : v3.cell? ⟨w.heap.size, 1, none⟩ = some (.int .i64 gg) := HS.out.cell 1
            have kS2 : v3.cell? ⟨w.heap.size, 2, none⟩ = some (.int .i64 (s 2)) := HS.out.cell 2
            have kS3 : v3.cell? ⟨w.heap.size, 3, none⟩ = some (.int .i64 (s 3)) := HS.out.cell 3
            have kS4 : v3.cell? ⟨w.heap.size, 4, none⟩ = some (.int .i64 s4) := HS.out.cell 4
            have kS5 : v3.cell? ⟨w.heap.size, 5, none⟩ = some (.int .i64 s5) := HS.out.cell 5
            have kS6 : v3.cell? ⟨w.heap.size, 6, none⟩ = some (.int .i64 s6) := HS.out.cell 6
            have kS7 : v3.cell? ⟨w.heap.size, 7, none⟩ = some (.int .i64 s7) := HS.out.cell 7
            have kS8 : v3.cell? ⟨w.heap.size, 8, none⟩ = some (.slice A n c) := HS.out.cell 8
            have kS9 : v3.cell? ⟨w.heap.size, 9, none⟩ = some (.int .i64 (s 9)) := HS.out.cell 9
            have kS10 : v3.cell? ⟨w.heap.size, 10, none⟩ = some (.int .i64 (s 10)) := HS.out.cell 10
            have kS11 : v3.cell? ⟨w.heap.size, 11, none⟩ = some (.int .i64 (s 11)) := HS.out.cell 11
            have kS12 : v3.cell? ⟨w.heap.size, 12, none⟩ = some (.int .i64 (s 12)) := HS.out.cell 12
            have kC0 : v3.cell? ⟨w.heap.size + 1, 0, none⟩ = some (.int .i64 p) := HC.out.cell 0
            have kC1 : v3.cell? ⟨w.heap.size + 1, 1, none⟩ = some (.int .i64 d) := HC.out.cell 1
            have kC2 : v3.cell? ⟨w.heap.size + 1, 2, none⟩ = some (.int .i64 mo) := HC.out.cell 2
            have kC3 : v3.cell? ⟨w.heap.size + 1, 3, none⟩ = some (.int .i64 le) := HC.out.cell 3
            have kC4 : v3.cell? ⟨w.heap.size + 1, 4, none⟩ = some (.bool bw) := HC.out.cell 4
            have kC5 : v3.cell? ⟨w.heap.size + 1, 5, none⟩ = some (R) := HC.out.cell 5
            have kT0 : v3.cell? ⟨w.heap.size + 1 + 1, 0, none⟩ = some (.int .u64 x) := HT.out.cell 0
            have kT1 : v3.cell? ⟨w.heap.size + 1 + 1, 1, none⟩ = some (.int .u64 y) := HT.out.cell 1
            by_cases hcz2 : c2 = 0
            · have hc2 : ((c2 : Int) == 0) = true := by simp [hcz2]
              have HC20 := Lib.hid hcz2
              clear hcz2
              go_wp2_with fail
              have HR : Hid (RES = D + X + st * (N : Int)) := Lib.hid (HE1.out (.inr ⟨HU.out, .inr HC20.out⟩))
              clear HE1 HE2 HE3
              obtain ⟨M, hM⟩ : ∃ M, st * (N : Int) = M := ⟨_, rfl⟩
              rw [hM] at M0 M1
              have hw1 : IntKind.i64.wrap (D + X) = D + X := IntWalk.i64_in _ (by omega)
              have hw2 : IntKind.i64.wrap (st * (N : Int)) = M := by rw [hM]; exact IntWalk.i64_in _ (by omega)
              have hw3 : IntKind.i64.wrap (D + X + M) = D + X + M := IntWalk.i64_in _ (by omega)
              have HM := Lib.hid hM
              clear hM
              go_wp2_with fail
              have HRPd : RdI v3.drew .i64 vA (plL l gg k) := rdI_drew HRP.out 1
              replace HRP := Lib.hid HRPd
              clear HRPd
              have sK : ∀ X, Blk X (w.heap.size) 25 #[.int .i64 (s 0), .int .i64 gg, .int .i64 (s 2), .int .i64 (s 3), .int .i64 s4, .int .i64 s5, .int .i64 s6, .int .i64 s7, .slice A n c, .int .i64 (s 9), .int .i64 (s 10), .int .i64 (s 11), .int .i64 (s 12)] → Blk X (w.heap.size + 1) 36 #[.int .i64 p, .int .i64 d, .int .i64 mo, .int .i64 le, .bool bw, R] → (fun X => X.cell? ⟨w.heap.size, 0, none⟩ = some (.int .i64 (s 0)) ∧ X.cell? ⟨w.heap.size, 1, none⟩ = some (.int .i64 gg) ∧ X.cell? ⟨w.heap.size, 2, none⟩ = some (.int .i64 (s 2)) ∧ X.cell? ⟨w.heap.size, 3, none⟩ = some (.int .i64 (s 3)) ∧ X.cell? ⟨w.heap.size, 4, none⟩ = some (.int .i64 s4) ∧ X.cell? ⟨w.heap.size, 5, none⟩ = some (.int .i64 s5) ∧ X.cell? ⟨w.heap.size, 6, none⟩ = some (.int .i64 s6) ∧ X.cell? ⟨w.heap.size, 7, none⟩ = some (.int .i64 s7) ∧ X.cell? ⟨w.heap.size, 8, none⟩ = some (.slice A n c) ∧ X.cell? ⟨w.heap.size, 9, none⟩ = some (.int .i64 (s 9)) ∧ X.cell? ⟨w.heap.size, 10, none⟩ = some (.int .i64 (s 10)) ∧ X.cell? ⟨w.heap.size, 11, none⟩ = some (.int .i64 (s 11)) ∧ X.cell? ⟨w.heap.size, 12, none⟩ = some (.int .i64 (s 12)) ∧ X.cell? ⟨w.heap.size + 1, 0, none⟩ = some (.int .i64 p) ∧ X.cell? ⟨w.heap.size + 1, 1, none⟩ = some (.int .i64 d) ∧ X.cell? ⟨w.heap.size + 1, 2, none⟩ = some (.int .i64 mo) ∧ X.cell? ⟨w.heap.size + 1, 3, none⟩ = some (.int .i64 le) ∧ X.cell? ⟨w.heap.size + 1, 4, none⟩ = some (.bool bw) ∧ X.cell? ⟨w.heap.size + 1, 5, none⟩ = some (R)) X := fun X hS hC => ⟨hS.cell 0, hS.cell 1, hS.cell 2, hS.cell 3, hS.cell 4, hS.cell 5, hS.cell 6, hS.cell 7, hS.cell 8, hS.cell 9, hS.cell 10, hS.cell 11, hS.cell 12, hC.cell 0, hC.cell 1, hC.cell 2, hC.cell 3, hC.cell 4, hC.cell 5⟩
              have LS0 := Lib.hid (HS.out.drew)
              have LC0 := Lib.hid (HC.out.drew)
              have E0 := Lib.hid (EE.out.drew)
              clear kS0 kS1 kS2 kS3 kS4 kS5 kS6 kS7 kS8 kS9 kS10 kS11 kS12 kC0 kC1 kC2 kC3 kC4 kC5 kT0 kT1
              refine wp_region_held_drew (S := (fun X => X.cell? ⟨w.heap.size, 0, none⟩ = some (.int .i64 (s 0)) ∧ X.cell? ⟨w.heap.size, 1, none⟩ = some (.int .i64 gg) ∧ X.cell? ⟨w.heap.size, 2, none⟩ = some (.int .i64 (s 2)) ∧ X.cell? ⟨w.heap.size, 3, none⟩ = some (.int .i64 (s 3)) ∧ X.cell? ⟨w.heap.size, 4, none⟩ = some (.int .i64 s4) ∧ X.cell? ⟨w.heap.size, 5, none⟩ = some (.int .i64 s5) ∧ X.cell? ⟨w.heap.size, 6, none⟩ = some (.int .i64 s6) ∧ X.cell? ⟨w.heap.size, 7, none⟩ = some (.int .i64 s7) ∧ X.cell? ⟨w.heap.size, 8, none⟩ = some (.slice A n c) ∧ X.cell? ⟨w.heap.size, 9, none⟩ = some (.int .i64 (s 9)) ∧ X.cell? ⟨w.heap.size, 10, none⟩ = some (.int .i64 (s 10)) ∧ X.cell? ⟨w.heap.size, 11, none⟩ = some (.int .i64 (s 11)) ∧ X.cell? ⟨w.heap.size, 12, none⟩ = some (.int .i64 (s 12)) ∧ X.cell? ⟨w.heap.size + 1, 0, none⟩ = some (.int .i64 p) ∧ X.cell? ⟨w.heap.size + 1, 1, none⟩ = some (.int .i64 d) ∧ X.cell? ⟨w.heap.size + 1, 2, none⟩ = some (.int .i64 mo) ∧ X.cell? ⟨w.heap.size + 1, 3, none⟩ = some (.int .i64 le) ∧ X.cell? ⟨w.heap.size + 1, 4, none⟩ = some (.bool bw) ∧ X.cell? ⟨w.heap.size + 1, 5, none⟩ = some (R))) (by kernel_rfl) (sK _ LS0.out LC0.out) (fun hHeld => ?_)
              clear hHeld
              refine wpAnyH_take (i := 0) (v := ?_) rfl (by kernel_rfl) (by kernel_rfl) (by kernel_rfl) (fun _ _ _ h => h) (Or.inl ⟨by rfl, ?_⟩) (sK _ LS0.out LC0.out) ?_
              rotate_left
              · (intro wS hSw; (try dsimp only at hSw); go_simp; try with_reducible rfl)
              simp only [Act.put, List.getElem_toArray, List.getElem_cons_zero, List.getElem_cons_succ, List.setIfInBounds_toArray, List.set_cons_zero, List.set_cons_succ]
              refine wpAnyH_take (i := 1) (v := ?_) rfl (by kernel_rfl) (by kernel_rfl) (by kernel_rfl) (fun _ _ _ h => h) (Or.inl ⟨by rfl, ?_⟩) (sK _ LS0.out LC0.out) ?_
              rotate_left
              · (intro wS hSw; (try dsimp only at hSw); go_simp; try with_reducible rfl)
              simp only [Act.put, List.getElem_toArray, List.getElem_cons_zero, List.getElem_cons_succ, List.setIfInBounds_toArray, List.set_cons_zero, List.set_cons_succ]
              refine wpAnyH_take (i := 3) (v := ?_) rfl (by kernel_rfl) (by kernel_rfl) (by kernel_rfl) (fun _ _ _ h => h) (Or.inl ⟨by rfl, ?_⟩) (sK _ LS0.out LC0.out) ?_
              rotate_left
              · (intro wS hSw; (try dsimp only at hSw); go_simp; try with_reducible rfl)
              simp only [Act.put, List.getElem_toArray, List.getElem_cons_zero, List.getElem_cons_succ, List.setIfInBounds_toArray, List.set_cons_zero, List.set_cons_succ]
              refine wpAnyH_take (i := 4) (v := ?_) rfl (by kernel_rfl) (by kernel_rfl) (by kernel_rfl) (fun _ _ _ h => h) (Or.inl ⟨by rfl, ?_⟩) (sK _ LS0.out LC0.out) ?_
              rotate_left
              · (intro wS hSw; (try dsimp only at hSw); go_simp; try with_reducible rfl)
              simp only [Act.put, List.getElem_toArray, List.getElem_cons_zero, List.getElem_cons_succ, List.setIfInBounds_toArray, List.set_cons_zero, List.set_cons_succ]
              refine wpAnyH_take (i := 5) (v := ?_) rfl (by kernel_rfl) (by kernel_rfl) (by kernel_rfl) (fun _ _ _ h => h) (Or.inl ⟨by rfl, ?_⟩) (sK _ LS0.out LC0.out) ?_
              rotate_left
              · (intro wS hSw; (try dsimp only at hSw); go_simp; try with_reducible rfl)
              simp only [Act.put, List.getElem_toArray, List.getElem_cons_zero, List.getElem_cons_succ, List.setIfInBounds_toArray, List.set_cons_zero, List.set_cons_succ]
              refine wpAnyH_take (i := 8) (v := ?_) rfl (by kernel_rfl) (by kernel_rfl) (by kernel_rfl) (fun _ _ _ h => h) (Or.inl ⟨by rfl, ?_⟩) (sK _ LS0.out LC0.out) ?_
              rotate_left
              · (intro wS hSw; (try dsimp only at hSw); go_simp; try with_reducible rfl)
              simp only [Act.put, List.getElem_toArray, List.getElem_cons_zero, List.getElem_cons_succ, List.setIfInBounds_toArray, List.set_cons_zero, List.set_cons_succ]
              refine wpAnyH_take (i := 9) (v := ?_) rfl (by kernel_rfl) (by kernel_rfl) (by kernel_rfl) (fun _ _ _ h => h) (Or.inl ⟨by rfl, ?_⟩) (sK _ LS0.out LC0.out) ?_
              rotate_left
              · (intro wS hSw; (try dsimp only at hSw); go_simp; try with_reducible rfl)
              simp only [Act.put, List.getElem_toArray, List.getElem_cons_zero, List.getElem_cons_succ, List.setIfInBounds_toArray, List.set_cons_zero, List.set_cons_succ]
              refine wpAnyH_take (i := 10) (v := ?_) rfl (by kernel_rfl) (by kernel_rfl) (by kernel_rfl) (fun _ _ _ h => h) (Or.inl ⟨by rfl, ?_⟩) (sK _ LS0.out LC0.out) ?_
              rotate_left
              · (intro wS hSw; (try dsimp only at hSw); go_simp; try with_reducible rfl)
              simp only [Act.put, List.getElem_toArray, List.getElem_cons_zero, List.getElem_cons_succ, List.setIfInBounds_toArray, List.set_cons_zero, List.set_cons_succ]
              refine wpAnyH_take (i := 11) (v := ?_) rfl (by kernel_rfl) (by kernel_rfl) (by kernel_rfl) (fun _ _ _ h => h) (Or.inl ⟨by rfl, ?_⟩) (sK _ LS0.out LC0.out) ?_
              rotate_left
              · (intro wS hSw; (try dsimp only at hSw); go_simp; try with_reducible rfl)
              simp only [Act.put, List.getElem_toArray, List.getElem_cons_zero, List.getElem_cons_succ, List.setIfInBounds_toArray, List.set_cons_zero, List.set_cons_succ]
              refine wpAnyH_take (i := 12) (v := ?_) rfl (by kernel_rfl) (by kernel_rfl) (by kernel_rfl) (fun _ _ _ h => h) (Or.inl ⟨by rfl, ?_⟩) (sK _ LS0.out LC0.out) ?_
              rotate_left
              · (intro wS hSw; (try dsimp only at hSw); go_simp; try with_reducible rfl)
              simp only [Act.put, List.getElem_toArray, List.getElem_cons_zero, List.getElem_cons_succ, List.setIfInBounds_toArray, List.set_cons_zero, List.set_cons_succ]
              refine wpAnyH_ready (rs := [2]) (by kernel_rfl) (by simp) ?_
              refine AllReadyH.cons rfl (fun K hK => ?_) AllReadyH.nil
              go_simp
              refine (JO.out _).mono ?_
              rintro e r1 ⟨rfl, hb⟩
              have LS1 := Lib.hid (Blk.next (w := v3.drew) LS0.out hb)
              have LC1 := Lib.hid (Blk.next (w := v3.drew) LC0.out hb)
              have E1 := Lib.hid (E0.out.trans (hb.mono E0.out.size))
              have HRP := Lib.hid (RdI.kept (w := v3.drew) HRP.out hb)
              clear hb
              go_wp2_with fail
              refine hK.out _ _ (sK _ LS1.out LC1.out) (fun hHeld => ?_)
              clear hK K hHeld
              try simp only [Act.put, List.getElem_toArray, List.getElem_cons_zero, List.getElem_cons_succ, List.setIfInBounds_toArray, List.set_cons_zero, List.set_cons_succ]
              refine wpAnyH_ready (rs := [6]) (by kernel_rfl) (by simp) ?_
              refine AllReadyH.cons rfl (fun K hK => ?_) AllReadyH.nil
              go_simp
              refine (JF.out _).mono ?_
              rintro e r2 ⟨rfl, hb⟩
              have LS2 := Lib.hid (Blk.next (w := r1) LS1.out hb)
              have LC2 := Lib.hid (Blk.next (w := r1) LC1.out hb)
              have E2 := Lib.hid (E1.out.trans (hb.mono E1.out.size))
              have HRP := Lib.hid (RdI.kept (w := r1) HRP.out hb)
              clear hb
              go_wp2_with fail
              refine hK.out _ _ (sK _ LS2.out LC2.out) (fun hHeld => ?_)
              clear hK K hHeld
              try simp only [Act.put, List.getElem_toArray, List.getElem_cons_zero, List.getElem_cons_succ, List.setIfInBounds_toArray, List.set_cons_zero, List.set_cons_succ]
              refine wpAnyH_take (i := 7) (v := ?_) rfl (by kernel_rfl) (by kernel_rfl) (by kernel_rfl) (fun _ _ _ h => h) (Or.inl ⟨by rfl, ?_⟩) (sK _ LS2.out LC2.out) ?_
              rotate_left
              · (intro wS hSw; (try dsimp only at hSw); go_simp; try with_reducible rfl)
              simp only [Act.put, List.getElem_toArray, List.getElem_cons_zero, List.getElem_cons_succ, List.setIfInBounds_toArray, List.set_cons_zero, List.set_cons_succ]
              refine wpAnyH_ready (rs := [13]) (by kernel_rfl) (by simp) ?_
              refine AllReadyH.cons rfl (fun K hK => ?_) AllReadyH.nil
              go_simp
              refine (JB.out vA vc _ HRP.out).mono ?_
              rintro e r3 ⟨rfl, hb⟩
              have LS3 := Lib.hid (Blk.next (w := r2) LS2.out hb)
              have LC3 := Lib.hid (Blk.next (w := r2) LC2.out hb)
              have E3 := Lib.hid (E2.out.trans (hb.mono E2.out.size))
              clear hb
              go_wp2_with fail
              refine hK.out _ _ (sK _ LS3.out LC3.out) (fun hHeld => ?_)
              clear hK K hHeld
              try simp only [Act.put, List.getElem_toArray, List.getElem_cons_zero, List.getElem_cons_succ, List.setIfInBounds_toArray, List.set_cons_zero, List.set_cons_succ]
              refine wpAnyH_take (i := 14) (v := ?_) rfl (by kernel_rfl) (by kernel_rfl) (by kernel_rfl) (fun _ _ _ h => h) (Or.inl ⟨by rfl, ?_⟩) (sK _ LS3.out LC3.out) ?_
              rotate_left
              · (intro wS hSw; (try dsimp only at hSw); go_simp; try with_reducible rfl)
              simp only [Act.put, List.getElem_toArray, List.getElem_cons_zero, List.getElem_cons_succ, List.setIfInBounds_toArray, List.set_cons_zero, List.set_cons_succ]
              refine wpAnyH_take (i := 15) (v := ?_) rfl (by kernel_rfl) (by kernel_rfl) (by kernel_rfl) (fun _ _ _ h => h) (Or.inl ⟨by rfl, ?_⟩) (sK _ LS3.out LC3.out) ?_
              rotate_left
              · (intro wS hSw; (try dsimp only at hSw); go_simp; try with_reducible rfl)
              simp only [Act.put, List.getElem_toArray, List.getElem_cons_zero, List.getElem_cons_succ, List.setIfInBounds_toArray, List.set_cons_zero, List.set_cons_succ]
              refine wpAnyH_take (i := 16) (v := ?_) rfl (by kernel_rfl) (by kernel_rfl) (by kernel_rfl) (fun _ _ _ h => h) (Or.inl ⟨by rfl, ?_⟩) (sK _ LS3.out LC3.out) ?_
              rotate_left
              · (intro wS hSw; (try dsimp only at hSw); go_simp; try with_reducible rfl)
              simp only [Act.put, List.getElem_toArray, List.getElem_cons_zero, List.getElem_cons_succ, List.setIfInBounds_toArray, List.set_cons_zero, List.set_cons_succ]
              refine wpAnyH_done (by kernel_rfl) ?_ _
              go_wp2_with fail
              try go_ret
              exact ⟨nret (by rw [HR.out, HM.out]), E3.out⟩
            · have hc2 : ((c2 : Int) == 0) = false := by rw [beq_eq_false_iff_ne]; omega
              have HC20 := Lib.hid hcz2
              clear hcz2
              have HR := Lib.hid (HE3.out (fun h => h.elim (fun h => HC0.out h) (fun h => h.2.elim (fun h => HDD.out h) (fun h => HC20.out h))) HU.out)
              obtain ⟨ob, ooff, rfl, hltO, hcO⟩ := rdI_row HRO.out (by have := HONL.out; omega)
              have hcpos : 0 < cn := by omega
              have o0' := hcO 0 (by have := HONL.out; omega)
              have o00 : v3.cell? ⟨ob, ooff, none⟩ = some (.int .i64 (zat on 0)) := o0'
              clear hcO o0'
              obtain ⟨z0, hz0'⟩ : ∃ z, zat on 0 = z := ⟨_, rfl⟩
              have HZ0 := Lib.hid hz0'
              rw [hz0'] at o00
              clear hz0'
              go_wp2_with fail
              clear o00
              clear kS0 kS1 kS2 kS3 kS4 kS5 kS6 kS7 kS8 kS9 kS10 kS11 kS12 kC0 kC1 kC2 kC3 kC4 kC5 kT0 kT1
              obtain ⟨X1, hX1⟩ : ∃ X, v3 = X := ⟨_, rfl⟩
              rw [hX1] at HS HC HT EE HRP HRO ⊢
              clear hX1
              go_loopw [18, 19] (fun t i wr => ∃ k : Nat, k ≤ cn ∧ i = .int .i64 k ∧ t = .int .i64 (tnA on p k) ∧ Below X1.heap.size X1 wr) (fun _ i _ => cn - (intOf i).toNat)
              case atStart => exact ⟨0, by omega, rfl, by rw [← HZ0.out]; rfl, Below.refl _ _⟩
              case round =>
                obtain ⟨k, hk, rfl, rfl, hb⟩ := hrel
                by_cases h : k < cn
                · obtain ⟨ob', ooff', e', _, hc⟩ := rdI_row (HRO.out.kept hb) (by have := HONL.out; omega)
                  cases e'
                  have ck := hc k (by have := HONL.out; omega)
                  have zb := HOB.out k h
                  have tb := HTB.out k hcpos
                  have ST : Hid (tnA on p (k + 1) = if farV (tnA on p k) p < farV (zat on k) p then zat on k else tnA on p k) := Lib.hid rfl
                  obtain ⟨zv, hzv⟩ : ∃ z, zat on k = z := ⟨_, rfl⟩
                  obtain ⟨tv, htv⟩ : ∃ z, tnA on p k = z := ⟨_, rfl⟩
                  rw [hzv] at ck zb ST
                  rw [htv] at tb ST ⊢
                  clear hc hzv htv
                  have KZ := fun w => rfar_any zv p w (by omega) (by omega) p0 (by omega)
                  have KT := fun w => rfar_any tv p w (by omega) (by omega) p0 (by omega)
                  obtain ⟨fz, hfz⟩ : ∃ z, farV zv p = z := ⟨_, rfl⟩
                  obtain ⟨ft, hft⟩ : ∃ z, farV tv p = z := ⟨_, rfl⟩
                  rw [hfz] at KZ ST
                  rw [hft] at KT ST
                  have JZ := Lib.hid KZ; have JT := Lib.hid KT
                  clear KZ KT hfz hft
                  have j0 : (0 : Int) ≤ (k : Int) := Int.natCast_nonneg _
                  have j1 : (k : Int) < (cn : Int) := by omega
                  have HCr := HC.out.next hb
                  have f0 : wr.cell? ⟨w.heap.size + 1, 0, none⟩ = some (.int .i64 p) := HCr.cell 0
                  have f1 : wr.cell? ⟨w.heap.size + 1, 1, none⟩ = some (.int .i64 d) := HCr.cell 1
                  have f2 : wr.cell? ⟨w.heap.size + 1, 2, none⟩ = some (.int .i64 mo) := HCr.cell 2
                  have f3 : wr.cell? ⟨w.heap.size + 1, 3, none⟩ = some (.int .i64 le) := HCr.cell 3
                  have f4 : wr.cell? ⟨w.heap.size + 1, 4, none⟩ = some (.bool bw) := HCr.cell 4
                  have f5 : wr.cell? ⟨w.heap.size + 1, 5, none⟩ = some (R) := HCr.cell 5
                  clear HCr
                  have HB := Lib.hid hb
                  clear hb
                  by_cases hlt : ft < fz
                  · have SN : Hid (tnA on p (k + 1) = zv) := Lib.hid (by rw [ST.out, if_pos hlt])
                    clear ST
                    go_wp2_with fail
                    go_region_held3 (fun X => X.cell? ⟨w.heap.size + 1, 0, none⟩ = some (.int .i64 p) ∧ X.cell? ⟨w.heap.size + 1, 1, none⟩ = some (.int .i64 d) ∧ X.cell? ⟨w.heap.size + 1, 2, none⟩ = some (.int .i64 mo) ∧ X.cell? ⟨w.heap.size + 1, 3, none⟩ = some (.int .i64 le) ∧ X.cell? ⟨w.heap.size + 1, 4, none⟩ = some (.bool bw) ∧ X.cell? ⟨w.heap.size + 1, 5, none⟩ = some (R) ∧ X.cell? ⟨ob, ooff + k, none⟩ = some (.int .i64 zv))
                      (go_keep)
                      (first
                        | (go_at_call 33; (with_reducible refine (JZ.out _).mono ?_); rintro e w' ⟨rfl, rfl⟩)
                        | (go_at_call 33; (with_reducible refine (JT.out _).mono ?_); rintro e w' ⟨rfl, rfl⟩))
                    go_wp2_with fail
                    go_roundw
                    case rel => exact ⟨k + 1, by omega, by go_num, by rw [SN.out], HB.out.drew⟩
                    case measure => simp [intOf]; omega
                  · have SN : Hid (tnA on p (k + 1) = tv) := Lib.hid (by rw [ST.out, if_neg hlt])
                    have hle : fz ≤ ft := by omega
                    clear ST
                    go_wp2_with fail
                    go_region_held3 (fun X => X.cell? ⟨w.heap.size + 1, 0, none⟩ = some (.int .i64 p) ∧ X.cell? ⟨w.heap.size + 1, 1, none⟩ = some (.int .i64 d) ∧ X.cell? ⟨w.heap.size + 1, 2, none⟩ = some (.int .i64 mo) ∧ X.cell? ⟨w.heap.size + 1, 3, none⟩ = some (.int .i64 le) ∧ X.cell? ⟨w.heap.size + 1, 4, none⟩ = some (.bool bw) ∧ X.cell? ⟨w.heap.size + 1, 5, none⟩ = some (R) ∧ X.cell? ⟨ob, ooff + k, none⟩ = some (.int .i64 zv))
                      (go_keep)
                      (first
                        | (go_at_call 33; (with_reducible refine (JZ.out _).mono ?_); rintro e w' ⟨rfl, rfl⟩)
                        | (go_at_call 33; (with_reducible refine (JT.out _).mono ?_); rintro e w' ⟨rfl, rfl⟩))
                    go_wp2_with fail
                    go_roundw
                    case rel => exact ⟨k + 1, by omega, by go_num, by rw [SN.out], HB.out.drew⟩
                    case measure => simp [intOf]; omega
                · obtain rfl : k = cn := by omega
                  have hk' : ¬ ((k : Int) < k) := by omega
                  have HB := hb
                  have HRP := Lib.hid (HRP.out.kept (w := X1) hb)
                  have HS := Lib.hid (Blk.next (w := X1) HS.out hb)
                  have HC := Lib.hid (Blk.next (w := X1) HC.out hb)
                  have HT := Lib.hid (Blk.next (w := X1) HT.out hb)
                  have EE := Lib.hid (EE.out.trans (hb.mono EE.out.size))
                  clear hb
                  have kS0 : wr.cell? ⟨w.heap.size, 0, none⟩ = some (.int .i64 (s 0)) := HS.out.cell 0
                  have kS1 : wr.cell? ⟨w.heap.size, 1, none⟩ = some (.int .i64 gg) := HS.out.cell 1
                  have kS2 : wr.cell? ⟨w.heap.size, 2, none⟩ = some (.int .i64 (s 2)) := HS.out.cell 2
                  have kS3 : wr.cell? ⟨w.heap.size, 3, none⟩ = some (.int .i64 (s 3)) := HS.out.cell 3
                  have kS4 : wr.cell? ⟨w.heap.size, 4, none⟩ = some (.int .i64 s4) := HS.out.cell 4
                  have kS5 : wr.cell? ⟨w.heap.size, 5, none⟩ = some (.int .i64 s5) := HS.out.cell 5
                  have kS6 : wr.cell? ⟨w.heap.size, 6, none⟩ = some (.int .i64 s6) := HS.out.cell 6
                  have kS7 : wr.cell? ⟨w.heap.size, 7, none⟩ = some (.int .i64 s7) := HS.out.cell 7
                  have kS8 : wr.cell? ⟨w.heap.size, 8, none⟩ = some (.slice A n c) := HS.out.cell 8
                  have kS9 : wr.cell? ⟨w.heap.size, 9, none⟩ = some (.int .i64 (s 9)) := HS.out.cell 9
                  have kS10 : wr.cell? ⟨w.heap.size, 10, none⟩ = some (.int .i64 (s 10)) := HS.out.cell 10
                  have kS11 : wr.cell? ⟨w.heap.size, 11, none⟩ = some (.int .i64 (s 11)) := HS.out.cell 11
                  have kS12 : wr.cell? ⟨w.heap.size, 12, none⟩ = some (.int .i64 (s 12)) := HS.out.cell 12
                  have kC0 : wr.cell? ⟨w.heap.size + 1, 0, none⟩ = some (.int .i64 p) := HC.out.cell 0
                  have kC1 : wr.cell? ⟨w.heap.size + 1, 1, none⟩ = some (.int .i64 d) := HC.out.cell 1
                  have kC2 : wr.cell? ⟨w.heap.size + 1, 2, none⟩ = some (.int .i64 mo) := HC.out.cell 2
                  have kC3 : wr.cell? ⟨w.heap.size + 1, 3, none⟩ = some (.int .i64 le) := HC.out.cell 3
                  have kC4 : wr.cell? ⟨w.heap.size + 1, 4, none⟩ = some (.bool bw) := HC.out.cell 4
                  have kC5 : wr.cell? ⟨w.heap.size + 1, 5, none⟩ = some (R) := HC.out.cell 5
                  have kT0 : wr.cell? ⟨w.heap.size + 1 + 1, 0, none⟩ = some (.int .u64 x) := HT.out.cell 0
                  have kT1 : wr.cell? ⟨w.heap.size + 1 + 1, 1, none⟩ = some (.int .u64 y) := HT.out.cell 1
                  have htr := HTN.out hcpos
                  rw [htr]
                  have tb := HTB.out k hcpos
                  rw [htr] at tb
                  clear htr HB
                  obtain ⟨t1, t2⟩ := tb
                  have JF1 := Lib.hid (fun w => rfar_b p tr w p0 (by omega) t1 (by omega))
                  have JF2 := Lib.hid (fun w => rfar_b tr m w t1 (by omega) m0 (by omega))
                  have f1 := far_bd (p := p) (m := tr) p0 (by omega) t1 (by omega)
                  have f2 := far_bd (p := tr) (m := m) t1 (by omega) m0 (by omega)
                  obtain ⟨Y, hY⟩ : ∃ Y, farV p tr = Y := ⟨_, rfl⟩
                  obtain ⟨Z, hZ⟩ : ∃ Y, farV tr m = Y := ⟨_, rfl⟩
                  have HR0 := HR.out
                  rw [hY] at HR0 JF1 f1
                  rw [hZ] at HR0 JF2 f2
                  obtain ⟨M, hM⟩ : ∃ M, st * ((k + 0 : Nat) : Int) = M := ⟨_, rfl⟩
                  rw [hM] at Q0 Q1 HR0
                  have hw1 : IntKind.i64.wrap (D + Y) = D + Y := IntWalk.i64_in _ (by omega)
                  have hw2 : IntKind.i64.wrap (D + Y + Z) = D + Y + Z := IntWalk.i64_in _ (by omega)
                  have hw3 : IntKind.i64.wrap (st * (k : Int)) = M := by rw [← hM]; exact IntWalk.i64_in _ (by rw [show (k : Int) = ((k + 0 : Nat) : Int) by omega, hM]; omega)
                  have hw4 : IntKind.i64.wrap (D + Y + Z + M) = D + Y + Z + M := IntWalk.i64_in _ (by omega)
                  have HR2 := Lib.hid HR0
                  clear HR0 HR hY hZ hM f1 f2 HE1 HE2 HE3
                  go_wp2_with fail
                  have sK : ∀ X, Blk X (w.heap.size) 25 #[.int .i64 (s 0), .int .i64 gg, .int .i64 (s 2), .int .i64 (s 3), .int .i64 s4, .int .i64 s5, .int .i64 s6, .int .i64 s7, .slice A n c, .int .i64 (s 9), .int .i64 (s 10), .int .i64 (s 11), .int .i64 (s 12)] → Blk X (w.heap.size + 1) 36 #[.int .i64 p, .int .i64 d, .int .i64 mo, .int .i64 le, .bool bw, R] → (fun X => X.cell? ⟨w.heap.size, 0, none⟩ = some (.int .i64 (s 0)) ∧ X.cell? ⟨w.heap.size, 1, none⟩ = some (.int .i64 gg) ∧ X.cell? ⟨w.heap.size, 2, none⟩ = some (.int .i64 (s 2)) ∧ X.cell? ⟨w.heap.size, 3, none⟩ = some (.int .i64 (s 3)) ∧ X.cell? ⟨w.heap.size, 4, none⟩ = some (.int .i64 s4) ∧ X.cell? ⟨w.heap.size, 5, none⟩ = some (.int .i64 s5) ∧ X.cell? ⟨w.heap.size, 6, none⟩ = some (.int .i64 s6) ∧ X.cell? ⟨w.heap.size, 7, none⟩ = some (.int .i64 s7) ∧ X.cell? ⟨w.heap.size, 8, none⟩ = some (.slice A n c) ∧ X.cell? ⟨w.heap.size, 9, none⟩ = some (.int .i64 (s 9)) ∧ X.cell? ⟨w.heap.size, 10, none⟩ = some (.int .i64 (s 10)) ∧ X.cell? ⟨w.heap.size, 11, none⟩ = some (.int .i64 (s 11)) ∧ X.cell? ⟨w.heap.size, 12, none⟩ = some (.int .i64 (s 12)) ∧ X.cell? ⟨w.heap.size + 1, 0, none⟩ = some (.int .i64 p) ∧ X.cell? ⟨w.heap.size + 1, 1, none⟩ = some (.int .i64 d) ∧ X.cell? ⟨w.heap.size + 1, 2, none⟩ = some (.int .i64 mo) ∧ X.cell? ⟨w.heap.size + 1, 3, none⟩ = some (.int .i64 le) ∧ X.cell? ⟨w.heap.size + 1, 4, none⟩ = some (.bool bw) ∧ X.cell? ⟨w.heap.size + 1, 5, none⟩ = some (R)) X := fun X hS hC => ⟨hS.cell 0, hS.cell 1, hS.cell 2, hS.cell 3, hS.cell 4, hS.cell 5, hS.cell 6, hS.cell 7, hS.cell 8, hS.cell 9, hS.cell 10, hS.cell 11, hS.cell 12, hC.cell 0, hC.cell 1, hC.cell 2, hC.cell 3, hC.cell 4, hC.cell 5⟩
                  have LS0 := Lib.hid (HS.out.drew)
                  have LC0 := Lib.hid (HC.out.drew)
                  have E0 := Lib.hid (EE.out.drew)
                  clear kS0 kS1 kS2 kS3 kS4 kS5 kS6 kS7 kS8 kS9 kS10 kS11 kS12 kC0 kC1 kC2 kC3 kC4 kC5 kT0 kT1
                  refine wp_region_held_drew (S := (fun X => X.cell? ⟨w.heap.size, 0, none⟩ = some (.int .i64 (s 0)) ∧ X.cell? ⟨w.heap.size, 1, none⟩ = some (.int .i64 gg) ∧ X.cell? ⟨w.heap.size, 2, none⟩ = some (.int .i64 (s 2)) ∧ X.cell? ⟨w.heap.size, 3, none⟩ = some (.int .i64 (s 3)) ∧ X.cell? ⟨w.heap.size, 4, none⟩ = some (.int .i64 s4) ∧ X.cell? ⟨w.heap.size, 5, none⟩ = some (.int .i64 s5) ∧ X.cell? ⟨w.heap.size, 6, none⟩ = some (.int .i64 s6) ∧ X.cell? ⟨w.heap.size, 7, none⟩ = some (.int .i64 s7) ∧ X.cell? ⟨w.heap.size, 8, none⟩ = some (.slice A n c) ∧ X.cell? ⟨w.heap.size, 9, none⟩ = some (.int .i64 (s 9)) ∧ X.cell? ⟨w.heap.size, 10, none⟩ = some (.int .i64 (s 10)) ∧ X.cell? ⟨w.heap.size, 11, none⟩ = some (.int .i64 (s 11)) ∧ X.cell? ⟨w.heap.size, 12, none⟩ = some (.int .i64 (s 12)) ∧ X.cell? ⟨w.heap.size + 1, 0, none⟩ = some (.int .i64 p) ∧ X.cell? ⟨w.heap.size + 1, 1, none⟩ = some (.int .i64 d) ∧ X.cell? ⟨w.heap.size + 1, 2, none⟩ = some (.int .i64 mo) ∧ X.cell? ⟨w.heap.size + 1, 3, none⟩ = some (.int .i64 le) ∧ X.cell? ⟨w.heap.size + 1, 4, none⟩ = some (.bool bw) ∧ X.cell? ⟨w.heap.size + 1, 5, none⟩ = some (R))) (by kernel_rfl) (sK _ LS0.out LC0.out) (fun hHeld => ?_)
                  clear hHeld
                  refine wpAnyH_take (i := 0) (v := ?_) rfl (by kernel_rfl) (by kernel_rfl) (by kernel_rfl) (fun _ _ _ h => h) (Or.inl ⟨by rfl, ?_⟩) (sK _ LS0.out LC0.out) ?_
                  rotate_left
                  · (intro wS hSw; (try dsimp only at hSw); go_simp; try with_reducible rfl)
                  simp only [Act.put, List.getElem_toArray, List.getElem_cons_zero, List.getElem_cons_succ, List.setIfInBounds_toArray, List.set_cons_zero, List.set_cons_succ]
                  refine wpAnyH_take (i := 1) (v := ?_) rfl (by kernel_rfl) (by kernel_rfl) (by kernel_rfl) (fun _ _ _ h => h) (Or.inl ⟨by rfl, ?_⟩) (sK _ LS0.out LC0.out) ?_
                  rotate_left
                  · (intro wS hSw; (try dsimp only at hSw); go_simp; try with_reducible rfl)
                  simp only [Act.put, List.getElem_toArray, List.getElem_cons_zero, List.getElem_cons_succ, List.setIfInBounds_toArray, List.set_cons_zero, List.set_cons_succ]
                  refine wpAnyH_take (i := 3) (v := ?_) rfl (by kernel_rfl) (by kernel_rfl) (by kernel_rfl) (fun _ _ _ h => h) (Or.inl ⟨by rfl, ?_⟩) (sK _ LS0.out LC0.out) ?_
                  rotate_left
                  · (intro wS hSw; (try dsimp only at hSw); go_simp; try with_reducible rfl)
                  simp only [Act.put, List.getElem_toArray, List.getElem_cons_zero, List.getElem_cons_succ, List.setIfInBounds_toArray, List.set_cons_zero, List.set_cons_succ]
                  refine wpAnyH_take (i := 4) (v := ?_) rfl (by kernel_rfl) (by kernel_rfl) (by kernel_rfl) (fun _ _ _ h => h) (Or.inl ⟨by rfl, ?_⟩) (sK _ LS0.out LC0.out) ?_
                  rotate_left
                  · (intro wS hSw; (try dsimp only at hSw); go_simp; try with_reducible rfl)
                  simp only [Act.put, List.getElem_toArray, List.getElem_cons_zero, List.getElem_cons_succ, List.setIfInBounds_toArray, List.set_cons_zero, List.set_cons_succ]
                  refine wpAnyH_take (i := 5) (v := ?_) rfl (by kernel_rfl) (by kernel_rfl) (by kernel_rfl) (fun _ _ _ h => h) (Or.inl ⟨by rfl, ?_⟩) (sK _ LS0.out LC0.out) ?_
                  rotate_left
                  · (intro wS hSw; (try dsimp only at hSw); go_simp; try with_reducible rfl)
                  simp only [Act.put, List.getElem_toArray, List.getElem_cons_zero, List.getElem_cons_succ, List.setIfInBounds_toArray, List.set_cons_zero, List.set_cons_succ]
                  refine wpAnyH_take (i := 8) (v := ?_) rfl (by kernel_rfl) (by kernel_rfl) (by kernel_rfl) (fun _ _ _ h => h) (Or.inl ⟨by rfl, ?_⟩) (sK _ LS0.out LC0.out) ?_
                  rotate_left
                  · (intro wS hSw; (try dsimp only at hSw); go_simp; try with_reducible rfl)
                  simp only [Act.put, List.getElem_toArray, List.getElem_cons_zero, List.getElem_cons_succ, List.setIfInBounds_toArray, List.set_cons_zero, List.set_cons_succ]
                  refine wpAnyH_take (i := 9) (v := ?_) rfl (by kernel_rfl) (by kernel_rfl) (by kernel_rfl) (fun _ _ _ h => h) (Or.inl ⟨by rfl, ?_⟩) (sK _ LS0.out LC0.out) ?_
                  rotate_left
                  · (intro wS hSw; (try dsimp only at hSw); go_simp; try with_reducible rfl)
                  simp only [Act.put, List.getElem_toArray, List.getElem_cons_zero, List.getElem_cons_succ, List.setIfInBounds_toArray, List.set_cons_zero, List.set_cons_succ]
                  refine wpAnyH_take (i := 12) (v := ?_) rfl (by kernel_rfl) (by kernel_rfl) (by kernel_rfl) (fun _ _ _ h => h) (Or.inl ⟨by rfl, ?_⟩) (sK _ LS0.out LC0.out) ?_
                  rotate_left
                  · (intro wS hSw; (try dsimp only at hSw); go_simp; try with_reducible rfl)
                  simp only [Act.put, List.getElem_toArray, List.getElem_cons_zero, List.getElem_cons_succ, List.setIfInBounds_toArray, List.set_cons_zero, List.set_cons_succ]
                  refine wpAnyH_take (i := 13) (v := ?_) rfl (by kernel_rfl) (by kernel_rfl) (by kernel_rfl) (fun _ _ _ h => h) (Or.inl ⟨by rfl, ?_⟩) (sK _ LS0.out LC0.out) ?_
                  rotate_left
                  · (intro wS hSw; (try dsimp only at hSw); go_simp; try with_reducible rfl)
                  simp only [Act.put, List.getElem_toArray, List.getElem_cons_zero, List.getElem_cons_succ, List.setIfInBounds_toArray, List.set_cons_zero, List.set_cons_succ]
                  refine wpAnyH_take (i := 14) (v := ?_) rfl (by kernel_rfl) (by kernel_rfl) (by kernel_rfl) (fun _ _ _ h => h) (Or.inl ⟨by rfl, ?_⟩) (sK _ LS0.out LC0.out) ?_
                  rotate_left
                  · (intro wS hSw; (try dsimp only at hSw); go_simp; try with_reducible rfl)
                  simp only [Act.put, List.getElem_toArray, List.getElem_cons_zero, List.getElem_cons_succ, List.setIfInBounds_toArray, List.set_cons_zero, List.set_cons_succ]
                  refine wpAnyH_ready (rs := [2]) (by kernel_rfl) (by simp) ?_
                  refine AllReadyH.cons rfl (fun K hK => ?_) AllReadyH.nil
                  go_simp
                  refine (JO.out _).mono ?_
                  rintro e r1 ⟨rfl, hb⟩
                  have LS1 := Lib.hid (Blk.next (w := wr.drew) LS0.out hb)
                  have LC1 := Lib.hid (Blk.next (w := wr.drew) LC0.out hb)
                  have E1 := Lib.hid (E0.out.trans (hb.mono E0.out.size))
                  clear hb
                  go_wp2_with fail
                  refine hK.out _ _ (sK _ LS1.out LC1.out) (fun hHeld => ?_)
                  clear hK K hHeld
                  try simp only [Act.put, List.getElem_toArray, List.getElem_cons_zero, List.getElem_cons_succ, List.setIfInBounds_toArray, List.set_cons_zero, List.set_cons_succ]
                  refine wpAnyH_ready (rs := [6]) (by kernel_rfl) (by simp) ?_
                  refine AllReadyH.cons rfl (fun K hK => ?_) AllReadyH.nil
                  go_simp
                  refine (JF1.out _).mono ?_
                  rintro e r2 ⟨rfl, hb⟩
                  have LS2 := Lib.hid (Blk.next (w := r1) LS1.out hb)
                  have LC2 := Lib.hid (Blk.next (w := r1) LC1.out hb)
                  have E2 := Lib.hid (E1.out.trans (hb.mono E1.out.size))
                  clear hb
                  go_wp2_with fail
                  refine hK.out _ _ (sK _ LS2.out LC2.out) (fun hHeld => ?_)
                  clear hK K hHeld
                  try simp only [Act.put, List.getElem_toArray, List.getElem_cons_zero, List.getElem_cons_succ, List.setIfInBounds_toArray, List.set_cons_zero, List.set_cons_succ]
                  refine wpAnyH_take (i := 7) (v := ?_) rfl (by kernel_rfl) (by kernel_rfl) (by kernel_rfl) (fun _ _ _ h => h) (Or.inl ⟨by rfl, ?_⟩) (sK _ LS2.out LC2.out) ?_
                  rotate_left
                  · (intro wS hSw; (try dsimp only at hSw); go_simp; try with_reducible rfl)
                  simp only [Act.put, List.getElem_toArray, List.getElem_cons_zero, List.getElem_cons_succ, List.setIfInBounds_toArray, List.set_cons_zero, List.set_cons_succ]
                  refine wpAnyH_ready (rs := [10]) (by kernel_rfl) (by simp) ?_
                  refine AllReadyH.cons rfl (fun K hK => ?_) AllReadyH.nil
                  go_simp
                  refine (JF2.out _).mono ?_
                  rintro e r3 ⟨rfl, hb⟩
                  have LS3 := Lib.hid (Blk.next (w := r2) LS2.out hb)
                  have LC3 := Lib.hid (Blk.next (w := r2) LC2.out hb)
                  have E3 := Lib.hid (E2.out.trans (hb.mono E2.out.size))
                  clear hb
                  go_wp2_with fail
                  refine hK.out _ _ (sK _ LS3.out LC3.out) (fun hHeld => ?_)
                  clear hK K hHeld
                  try simp only [Act.put, List.getElem_toArray, List.getElem_cons_zero, List.getElem_cons_succ, List.setIfInBounds_toArray, List.set_cons_zero, List.set_cons_succ]
                  refine wpAnyH_take (i := 11) (v := ?_) rfl (by kernel_rfl) (by kernel_rfl) (by kernel_rfl) (fun _ _ _ h => h) (Or.inl ⟨by rfl, ?_⟩) (sK _ LS3.out LC3.out) ?_
                  rotate_left
                  · (intro wS hSw; (try dsimp only at hSw); go_simp; try with_reducible rfl)
                  simp only [Act.put, List.getElem_toArray, List.getElem_cons_zero, List.getElem_cons_succ, List.setIfInBounds_toArray, List.set_cons_zero, List.set_cons_succ]
                  refine wpAnyH_take (i := 15) (v := ?_) rfl (by kernel_rfl) (by kernel_rfl) (by kernel_rfl) (fun _ _ _ h => h) (Or.inl ⟨by rfl, ?_⟩) (sK _ LS3.out LC3.out) ?_
                  rotate_left
                  · (intro wS hSw; (try dsimp only at hSw); go_simp; try with_reducible rfl)
                  simp only [Act.put, List.getElem_toArray, List.getElem_cons_zero, List.getElem_cons_succ, List.setIfInBounds_toArray, List.set_cons_zero, List.set_cons_succ]
                  refine wpAnyH_take (i := 16) (v := ?_) rfl (by kernel_rfl) (by kernel_rfl) (by kernel_rfl) (fun _ _ _ h => h) (Or.inl ⟨by rfl, ?_⟩) (sK _ LS3.out LC3.out) ?_
                  rotate_left
                  · (intro wS hSw; (try dsimp only at hSw); go_simp; try with_reducible rfl)
                  simp only [Act.put, List.getElem_toArray, List.getElem_cons_zero, List.getElem_cons_succ, List.setIfInBounds_toArray, List.set_cons_zero, List.set_cons_succ]
                  refine wpAnyH_done (by kernel_rfl) ?_ _
                  go_wp2_with fail
                  try go_ret
                  exact ⟨nret (by rw [HR2.out]), E3.out⟩
end Go.Proofs.YtbjcigkakeffmaaDoor
