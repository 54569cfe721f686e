/- The document's eta. -/
import Derived.Test.YtbjcigkakeffmaaDoorRows
import Derived.Test.YtbjcigkakeffmaaDoorKitM
import Derived.Test.YtbjcigkakeffmaaDoorCmp
import Derived.Test.YtbjcigkakeffmaaDoorPlaceA
import Derived.Test.YtbjcigkakeffmaaDoorVetA
import Derived.Test.YtbjcigkakeffmaaDoorVetB
import Derived.Test.YtbjcigkakeffmaaDoorNearMath
import Derived.Test.YtbjcigkakeffmaaDoorNearA
import Derived.Test.YtbjcigkakeffmaaDoorNearB
import Derived.Test.YtbjcigkakeffmaaDoorNearC
import Derived.Test.YtbjcigkakeffmaaDoorNearG
import Derived.Test.YtbjcigkakeffmaaDoorNearI
import Derived.Test.YtbjcigkakeffmaaDoorBitM
import Derived.Test.YtbjcigkakeffmaaDoorBitsL
import Derived.Test.YtbjcigkakeffmaaDoorBitsN
import Derived.Test.YtbjcigkakeffmaaDoorBitsT
import Derived.Test.YtbjcigkakeffmaaDoorBitsU
import Derived.Test.YtbjcigkakeffmaaDoorBitsV
import Derived.Test.YtbjcigkakeffmaaDoorBitsX
import Derived.Test.YtbjcigkakeffmaaDoorWantA
import Derived.Test.YtbjcigkakeffmaaDoorWantB
import Derived.Test.YtbjcigkakeffmaaDoorWantC
import Derived.Test.YtbjcigkakeffmaaDoorEtaA
import Derived.Test.YtbjcigkakeffmaaDoorEtaB
import Derived.Test.YtbjcigkakeffmaaDoorEtaMath
import Derived.Test.YtbjcigkakeffmaaDoorEtaC
import Derived.WalkKit
import Derived.IntWalk
import Derived.Lib.Hide
import Derived.WalkSpells
import Derived.WalkLawsBesides
import Derived.Laws.CopyOwn
import Derived.Laws.MakeOwn
import Derived.Laws.OwnMore
import Derived.OwnWalk
import Derived.Deep.QuietTactic
import Derived.BigQuiet
import Derived.Deep.RegionHeld3
import Derived.Deep.LoopGhost
import Derived.BigRegion
import Derived.Below
namespace Go.Proofs.YtbjcigkakeffmaaDoor
open Go.RowKit
set_option linter.unusedSimpArgs false
set_option linter.unusedVariables false
set_option maxRecDepth 100000 in
set_option maxHeartbeats 4000000 in
theorem rbt34_any (A : Option Addr) (cc N : Nat) (l : List Int) (a b : Int) (w : World) (hN : l.length = N) (hN1 : N ≤ 128) (hr : RdI w .i64 A l) :
    Calls Tryd.prog 34 #[.slice A N cc, .int .i64 a, .int .i64 b] w fun e w' => e = .returned (.int .i64 (btP a b l)) ∧ Below w.heap.size w w' := by
  have HN := Lib.hid hN
  have RL := Lib.hid hr
  have hNI : (N : Int) ≤ 128 := by omega
  clear hN hr
  go_enter Tryd.func34, Tryd.ntmps34
  go_wp2_with fail
  go_loopg [7, 8] N (fun g c i wr => ∃ k q : Nat, k ≤ N ∧ g = N - k ∧ i = .int .i64 k ∧ c = .int .i64 q ∧ q ≤ k ∧ wr = w ∧ Hid (btP a b (l.take k) = q))
  case atStart => exact ⟨0, 0, by omega, rfl, rfl, rfl, by omega, rfl, Lib.hid rfl⟩
  case round =>
    obtain ⟨k, q, hk, rfl, rfl, rfl, hqk, rfl, hq⟩ := hrel
    by_cases h : k < N
    · obtain ⟨bb, off, rfl, hlt, hc⟩ := rdI_row RL.out (by have := HN.out; omega)
      have ck := hc k (by have := HN.out; omega)
      have T : Hid (l.take (k + 1) = l.take k ++ [zat l k]) := Lib.hid (take_zatE (by have := HN.out; omega))
      obtain ⟨z, hz⟩ : ∃ z, zat l k = z := ⟨_, rfl⟩
      rw [hz] at ck T
      have g2 : (k : Int) < N := by omega
      have Y : ∀ h : btC a b z = true, Hid (btP a b (l.take (k + 1)) = q + 1) := fun h => Lib.hid (by rw [T.out, btP_yes _ h, hq.out])
      have Nn : ∀ h : btC a b z = false, Hid (btP a b (l.take (k + 1)) = q) := fun h => Lib.hid (by rw [T.out, btP_no _ h, hq.out])
      clear hc hz T hq
      have CC : (btC a b z = true ∧ a < z ∧ z < b) ∨ (btC a b z = true ∧ z ≤ a ∧ b < z ∧ z < a) ∨ (btC a b z = false ∧ a < z ∧ b ≤ z ∧ a ≤ z) ∨ (btC a b z = false ∧ z ≤ a ∧ z ≤ b) ∨ (btC a b z = false ∧ z ≤ a ∧ b < z ∧ a ≤ z) := by
        unfold btC
        by_cases h1 : a < z
        · by_cases h2 : z < b
          · refine .inl ⟨?_, h1, h2⟩; simp; omega
          · refine .inr (.inr (.inl ⟨?_, h1, by omega, by omega⟩)); simp; omega
        · by_cases h2 : b < z
          · by_cases h3 : z < a
            · refine .inr (.inl ⟨?_, by omega, h2, h3⟩); simp; omega
            · refine .inr (.inr (.inr (.inr ⟨?_, by omega, h2, by omega⟩))); simp; omega
          · refine .inr (.inr (.inr (.inl ⟨?_, by omega, by omega⟩))); simp; omega
      rcases CC with ⟨hc, h1, h2⟩ | ⟨hc, h1, h2, h3⟩ | ⟨hc, h1, h2, h3⟩ | ⟨hc, h1, h2⟩ | ⟨hc, h1, h2, h3⟩
      · have U := Y hc
        clear Y Nn hc
        go_wp2_with fail
        all_goals first
          | (exfalso; omega)
          | (go_roundg (N - (k + 1))
             case measure => omega
             case rel => exact ⟨k + 1, q + 1, by omega, rfl, by go_num, by go_num, by omega, rfl, U⟩)
      · have U := Y hc
        clear Y Nn hc
        go_wp2_with fail
        all_goals first
          | (exfalso; omega)
          | (go_roundg (N - (k + 1))
             case measure => omega
             case rel => exact ⟨k + 1, q + 1, by omega, rfl, by go_num, by go_num, by omega, rfl, U⟩)
      · have U := Nn hc
        clear Y Nn hc
        go_wp2_with fail
        all_goals first
          | (exfalso; omega)
          | (go_roundg (N - (k + 1))
             case measure => omega
             case rel => exact ⟨k + 1, q, by omega, rfl, by go_num, by go_num, by omega, rfl, U⟩)
      · have U := Nn hc
        clear Y Nn hc
        go_wp2_with fail
        all_goals first
          | (exfalso; omega)
          | (go_roundg (N - (k + 1))
             case measure => omega
             case rel => exact ⟨k + 1, q, by omega, rfl, by go_num, by go_num, by omega, rfl, U⟩)
      · have U := Nn hc
        clear Y Nn hc
        go_wp2_with fail
        all_goals first
          | (exfalso; omega)
          | (go_roundg (N - (k + 1))
             case measure => omega
             case rel => exact ⟨k + 1, q, by omega, rfl, by go_num, by go_num, by omega, rfl, U⟩)
    · obtain rfl : k = N := by omega
      have hkk : ¬ ((k : Int) < k) := by omega
      have Q : Hid (btP a b l = q) := Lib.hid (by rw [← hq.out, List.take_of_length_le (by have := HN.out; omega)])
      clear hq
      go_wp2_with fail
      go_ret
      exact ⟨by rw [Q.out]; rfl, Below.refl _ _⟩
def RAh (l : List Int) (p d : Int) (k : Nat) (v : Value) (X0 wr : World) : Prop := wr.ownsRow X0.heap.size 3 1 v (ahA l p d k).length ((ahA l p d k).map (Value.int .i64)) ∧ Below X0.heap.size X0 wr
theorem ahA_mem (l : List Int) (p d z : Int) : ∀ k, k ≤ l.length → z ∈ ahA l p d k → z ∈ l := fun k hk h => by
  rw [ahA_filter l p d k hk] at h
  exact List.mem_of_mem_take (List.mem_filter.1 h).1
set_option maxRecDepth 100000 in
set_option maxHeartbeats 4000000 in
theorem rah34_any (A : Option Addr) (cc N : Nat) (l : List Int) (p d : Int) (w : World) (hN : l.length = N) (hN1 : N ≤ 128) (hr : RdI w .i64 A l) (hb : ∀ z, z ∈ l → 0 ≤ z ∧ z ≤ 4096) (p0 : 0 ≤ p) (p1 : p ≤ 4096) (hd : d = -1 ∨ d = 0 ∨ d = 1) :
    Calls Tryd.prog 32 #[.slice A N cc, .int .i64 p, .int .i64 d] w fun e w' => ∃ A' c', e = .returned (.slice A' (ahA l p d N).length c') ∧ RdI w' .i64 A' (ahA l p d N) ∧ Below w.heap.size w w' := by
  obtain ⟨i0, hi, hz0, hz1, hz2⟩ := info_parts mkInfo
  have LEN := Lib.hid (ahA_len l p d)
  have WFh := Lib.hid (show ∀ i, i < (ahA l p d N).length → (Lit.int .i64 (zat (ahA l p d N) i)).wf = true from fun i hi => by
    have := hb _ (ahA_mem l p d _ N (by omega) (zat_mem hi))
    exact WalkArith.wf_i64 (by omega))
  have HB := Lib.hid hb
  have HN := Lib.hid hN
  have RL := Lib.hid hr
  have hNI : (N : Int) ≤ 128 := by omega
  clear hN hr hb
  go_enter Tryd.func32, Tryd.ntmps32
  go_wp2_with fail
  go_loopg [7, 8] N (fun g v i wr => ∃ k : Nat, k ≤ N ∧ g = N - k ∧ i = .int .i64 k ∧ RAh l p d k v w wr)
  case atStart => exact ⟨0, by omega, rfl, rfl, World.ownsRow_nil _ _ _ _, Below.refl _ _⟩
  case round =>
    obtain ⟨k, hk, rfl, rfl, hown, hb⟩ := hrel
    obtain ⟨vA, vc, hv⟩ := mkSlice hown
    subst hv
    have hm := LEN.out k
    by_cases h : k < N
    · obtain ⟨bb, off, rfl, hlt, hc⟩ := rdI_row (RL.out.kept hb) (by have := HN.out; omega)
      have ck := hc k (by have := HN.out; omega)
      have hkI : (k : Int) < N := by omega
      have zb := HB.out _ (zat_mem (show k < l.length by have := HN.out; omega))
      obtain ⟨z, hz⟩ : ∃ z, zat l k = z := ⟨_, rfl⟩
      have RA : Hid (ahA l p d (k + 1) = if ahB p d z then ahA l p d k ++ [z] else ahA l p d k) := Lib.hid (by rw [← hz]; rfl)
      rw [hz] at ck zb
      obtain ⟨z0, z1⟩ := zb
      clear hc hz
      have BC : (ahB p d z = true ∧ 0 < (z - p) * d) ∨ (ahB p d z = false ∧ (z - p) * d ≤ 0) := by
        unfold ahB
        by_cases h : 0 < (z - p) * d
        · exact .inl ⟨by simp [h], h⟩
        · exact .inr ⟨by simp [h], by omega⟩
      have YB : -4096 ≤ (z - p) * d ∧ (z - p) * d ≤ 4096 := by rcases hd with rfl | rfl | rfl <;> omega
      obtain ⟨y, hy⟩ : ∃ y, (z - p) * d = y := ⟨_, rfl⟩
      rw [hy] at BC YB
      have hw0 : IntKind.i64.wrap (z - p) = z - p := IntWalk.i64_in _ (by omega)
      have hw : IntKind.i64.wrap ((z - p) * d) = y := by rw [hy]; exact IntWalk.i64_in _ (by omega)
      obtain ⟨y0, y1⟩ := YB
      have HY := Lib.hid hy
      clear hy
      have YES : ahB p d z = true → Hid (∀ v' w1, w1.ownsRow w.heap.size 3 1 v' ((ahA l p d k).length + 1) ((ahA l p d k).map (Value.int .i64) ++ [.int .i64 z]) → Below w.heap.size w w1 → RAh l p d (k + 1) v' w w1) := fun hbc => Lib.hid fun v' w1 h1 h2 => by
        unfold RAh; rw [RA.out, if_pos hbc]
        simp only [List.length_append, List.length_singleton, List.map_append, List.map_cons, List.map_nil]
        exact ⟨h1, h2⟩
      have NOO : ahB p d z = false → Hid (RAh l p d (k + 1) (.slice vA (ahA l p d k).length vc) w wr) := fun hbc => Lib.hid (by unfold RAh; rw [RA.out, if_neg (by rw [hbc]; decide)]; exact ⟨hown, hb⟩)
      clear RA
      obtain ⟨M, hme⟩ : ∃ m, (ahA l p d k).length = m := ⟨_, rfl⟩
      rw [hme] at hown hm YES NOO ⊢
      clear hme
      rcases BC with ⟨hbc, h1⟩ | ⟨hbc, h1⟩
      · have E := YES hbc
        clear hbc YES NOO hd
        go_wp2_with (at_builtin; refine wpList_append_own _ rfl _ _ 48 rfl w.heap.size 3 i0 (.int .i64 0) 1 8 Tryd.underlying48 hi hz0 hz1 hz2 rfl (by decide) _ _ _ rfl (hown.alloc _) ⟨_, 0, none⟩ 1 1 [.int .i64 _] rfl rfl one_newR (by intro u hu; simp at hu; subst hu; rfl) (by unfold maxLen; omega) (by omega) (by have := hb.size; simp; omega) ?_; intro v' w1 hown' hgrow _)
        have hb1 : Below w.heap.size w w1 := by
          refine (hb.alloc hb.size _).grown hgrow (by have := hb.size; simp; omega) (fun g hg => ?_)
          first | exact ownR_ge hown hg | exact ownR_ge hown hg.symm
        have HR := E.out v' w1 hown' hb1
        clear hown' hgrow E
        go_wp2_with fail
        go_roundg (N - (k + 1))
        case measure => omega
        case rel => exact ⟨k + 1, by omega, rfl, by go_num, HR⟩
      · have E := NOO hbc
        clear hbc YES NOO hown hd
        go_wp2_with fail
        go_roundg (N - (k + 1))
        case measure => omega
        case rel => exact ⟨k + 1, by omega, rfl, by go_num, E.out⟩
    · obtain rfl : k = N := by omega
      have hkk : ¬ ((k : Int) < k) := by omega
      obtain ⟨B, cc, hv, hR⟩ := ownR_rd hown WFh.out
      cases hv
      go_wp2_with fail
      go_ret
      exact ⟨_, ⟨_, rfl⟩, hR, hb⟩
end Go.Proofs.YtbjcigkakeffmaaDoor
