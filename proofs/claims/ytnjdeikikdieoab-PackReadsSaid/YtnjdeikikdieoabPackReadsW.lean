/- The walk of PackReads: it answers true for every input, and leaves all old blocks as they were. No condition. -/
import Derived.Test.YtnjdeikikdieoabRows
import Derived.Test.YtnjdeikikdieoabRowKit
import Derived.Test.YtnjdeikikdieoabPackE
import Derived.Test.YtnjdeikikdieoabBlocks
import Derived.Test.YtnjdeikikdieoabPackRM
import Derived.Test.YtnjdeikikdieoabPackRA
import Derived.Test.YtnjdeikikdieoabPackRB
import Derived.Test.YtnjdeikikdieoabPackRC
import Derived.Test.YtnjdeikikdieoabPackRD
import Derived.WalkKit
import Derived.ProofKit
import Derived.OpenShut
import Derived.Deep.QuietTactic
import Derived.BigQuiet
import Derived.Lib.SmallJoins
import Derived.Lib.Hide
import Derived.WalkSpells
import Derived.WalkLawsBesides
import Derived.Deep.LoopGhost
import Derived.OwnWalk
import Derived.BigRegion
import Derived.Deep.RegionHeld3
import Derived.IntWalk
namespace Go.Proofs.Ytnjdeikikdieoab.packReads
open Go.ChangeShapes Go.WideShapes Go.ChangeAt Go.RowKit Go.Joins
set_option linter.unusedSimpArgs false
set_option linter.unusedVariables false

theorem _root_.Go.Proofs.Ytnjdeikikdieoab.wpAnyH_narrow {P : Program} {md : Region.Mode} {ops : Array Oper} {Q : Exit → Act → World → Prop} {S S' : World → Prop} (h : ∀ w, S' w → S w) : ∀ (fuel : Nat) (listed : Array Bool) (a : Act) (w : World), wpAnyH P md ops Q S' fuel listed a w → wpAnyH P md ops Q S fuel listed a w
  | 0, _, _, _, hw => hw
  | fuel + 1, _, _, _, hw => ⟨hw.1, fun i hi => wpOp_mono (fun a' w' h' => ⟨h _ h'.1, wpAnyH_narrow h fuel _ a' w' h'.2⟩) (hw.2 i hi)⟩
theorem bne_self_b (b : Bool) : (b != b) = false := by simp
set_option maxRecDepth 100000 in
set_option maxHeartbeats 8000000 in
theorem walk {A K : Option Addr} {c ck : Nat} {zs ks : List Int} {most : Int} {w : World} (hc1 : zs.length ≤ c) (hc2 : c ≤ maxLen) (hr : RdI w .u8 A zs) (hk1 : ks.length ≤ ck) (hk2 : ck ≤ maxLen) (hrk : RdI w .i64 K ks) (wm : (Lit.int .i64 most).wf = true) :
    Calls Try.prog 6 #[.slice A zs.length c, .slice K ks.length ck, .int .i64 most] w fun e w' => e = .returned (.bool true) ∧ Below w.heap.size w w' := by
  have hM : maxLen ≤ 9223372036854775807 := by decide
  obtain ⟨m0, m1⟩ := bounds_i64 wm
  have HR := Lib.hid hr
  have HRK := Lib.hid hrk
  obtain ⟨n, hn⟩ : ∃ n, zs.length = n := ⟨_, rfl⟩
  obtain ⟨nk, hnk⟩ : ∃ n, ks.length = n := ⟨_, rfl⟩
  have HN := Lib.hid hn
  have HNK := Lib.hid hnk
  rw [hn] at hc1 ⊢
  rw [hnk] at hk1 ⊢
  clear hr hrk hn hnk wm
  by_cases g1 : 500 < n
  · have g1' : (500 : Int) < (n : Int) := by omega
    go_enter Try.func6, Try.ntmps6
    go_wp2_with fail
    go_ret
    exact ⟨rfl, Below.refl _ _⟩
  by_cases g2 : 50 < nk
  · have g1' : ¬ (500 : Int) < (n : Int) := by omega
    have g2' : (50 : Int) < (nk : Int) := by omega
    go_enter Try.func6, Try.ntmps6
    go_wp2_with fail
    go_ret
    exact ⟨rfl, Below.refl _ _⟩
  have g1' : ¬ (500 : Int) < (n : Int) := by omega
  have g2' : ¬ (50 : Int) < (nk : Int) := by omega
  have K1 := Lib.hid (pread_any A c zs w HR.out (by rw [HN.out]; omega) (by rw [HN.out]; omega) hc2)
  have K2 := Lib.hid (dnum_any A c zs w HR.out (by rw [HN.out]; omega) (by rw [HN.out]; omega) hc2)
  have hbd := numB_bd zs
  have K1 := K1.out
  unfold readV at K1
  obtain ⟨nm, hnm⟩ : ∃ x, (numB zs).1 = x := ⟨_, rfl⟩
  obtain ⟨kc, hkc⟩ : ∃ x, (numB zs).2 = x := ⟨_, rfl⟩
  rw [hnm, hkc] at hbd K2 K1
  rw [HN.out] at hbd K1 K2
  have K1 := Lib.hid K1
  clear hnm hkc
  go_enter Try.func6, Try.ntmps6
  go_wp2_with fail
  refine K1.out.mono ?_
  rintro e w1 ⟨rfl, rfl⟩
  have GO : ∀ (V : World), Below w.heap.size w V → True := fun _ _ => trivial
  by_cases hz : kc = 0 ∨ kc ≠ n
  · rw [if_pos hz]
    have z1 : kc = 0 ∨ kc < n := by omega
    by_cases hz0 : kc = 0
    all_goals (
      (try have z2 : ((kc : Int) == 0) = true := by simp [hz0])
      (try have z2 : ((kc : Int) == 0) = false := by rw [beq_eq_false_iff_ne]; omega)
      (try have z3 : (kc : Int) < (n : Int) := by omega)
      go_wp2_with fail
      refine K2.out.mono ?_
      rintro e V0 ⟨rfl, hbV⟩
      have HV := Lib.hid hbV
      clear hz hz0 z1 hbV
      go_wp2_with fail
      have hlow : ∃ B, (RdI V0 .u8 A zs) ∧ B = V0.heap.size := ⟨_, RdI.kept HR.out HV.out, rfl⟩
      have PM := pmake_any A c zs V0 (RdI.kept HR.out HV.out) (by rw [HN.out]; omega) hc2
      rw [HN.out] at PM
      refine PM.mono ?_
      rintro e V1 ⟨rfl, hrs, hbV, hsz⟩
      have h1 : RS V0 (V1.alloc (.cells #[.slice A n c, .bool false] 60)) V0.heap.size 85 zs false := rs_next hrs ((Below.refl _ _).alloc (Nat.le_refl _) _)
      have h2 : RS V0 (V1.alloc (.cells #[.slice A n c, .bool false] 60)) (V0.heap.size + 1) 60 zs false := by
        refine ⟨A, c, ?_, RdI.kept HR.out HV.out, by rw [HN.out]; omega, hc2⟩
        have := Blk.new V1 #[.slice A n c, .bool false] 60
        rw [hsz] at this
        rw [HN.out]; exact this
      have HT : Hid (Two V0 (V1.alloc (.cells #[.slice A n c, .bool false] 60)) V0.heap.size (V0.heap.size + 1) zs false) := Lib.hid ⟨h1, h2, hbV.alloc (by omega) _⟩
      have hsz1 := hsz
      clear h1 h2 hrs PM hlow hbV
      go_wp2_with fail
      try rw [hsz]
      obtain ⟨g, hg⟩ : ∃ g, V0.heap.size = g := ⟨_, rfl⟩
      obtain ⟨W, hW⟩ : ∃ W, V1.alloc (.cells #[.slice A n c, .bool false] 60) = W := ⟨_, rfl⟩
      have HGV := Lib.hid hg
      rw [hg, hW] at HT
      rw [hg]
      try rw [hW]
      clear hW hg hsz hsz1
      obtain ⟨V, hVV⟩ : ∃ V, V0 = V := ⟨_, rfl⟩
      rw [hVV] at HT HV HGV
      clear hVV
      have hgV := HGV.out
      go_loopw [13] (fun i wr => ∃ (k : Nat) (ys : List Int) (bad : Bool), k ≤ nk ∧ i = .int .i64 k ∧ Hid (Two V wr g (g + 1) ys bad) ∧ ys.length ≤ 1000000) (fun i _ => nk - (intOf i).toNat)
      case atStart => exact ⟨0, zs, false, by omega, rfl, HT, by rw [HN.out]; omega⟩
      case round =>
        obtain ⟨k, ys, bad, hk, rfl, HT0, hyl⟩ := hrel
        by_cases h : k < nk
        · have h' : k < nk := h
          obtain ⟨bk, ok, rfl, _, hcell⟩ := rdI_row HRK.out (by rw [HNK.out]; omega)
          clear hcell
          have hkw := (HRK.out k (by rw [HNK.out]; exact h'))
          obtain ⟨kz, hkz⟩ : ∃ x, zat ks k = x := ⟨_, rfl⟩
          have hwf : (Lit.int .i64 kz).wf = true := by obtain ⟨_, _, _, _, q⟩ := hkw; rw [hkz] at q; exact q
          have c0 : wr.cell? ⟨bk, ok + k, none⟩ = some (.int .i64 kz) := by
            obtain ⟨a, ha, _, h2, _⟩ := (RdI.kept (RdI.kept HRK.out HV.out) HT0.out.2.2) k (by rw [HNK.out]; exact h')
            obtain rfl := Option.some.inj ha
            have e3 : (⟨bk, ok, none⟩ : Addr).add k = ⟨bk, ok + k, none⟩ := by unfold Addr.add; split <;> simp_all
            rw [e3, hkz] at h2
            exact h2
          have HKZ := Lib.hid hkz
          clear hkw hkz
          by_cases hneg : kz < 0
          · skip
            clear hwf
            go_wp2_with fail
            go_ret
            exact ⟨rfl, HV.out.trans (HT0.out.2.2.mono HV.out.size)⟩
          · obtain ⟨kk, hkk⟩ : ∃ kk : Nat, kz = (kk : Int) := ⟨kz.toNat, by omega⟩
            subst hkk
            have HKK := HKZ
            have HS0 : Hid (wr.cell? ⟨bk, ok + k, none⟩ = some (.int .i64 kk)) := Lib.hid c0
            have hng : ¬ (kk : Int) < 0 := by omega
            go_wp2_with fail
            clear c0
            refine wp_region_held_drew (S := fun X : World => X.cell? ⟨bk, ok + k, none⟩ = some (.int .i64 kk)) (by kernel_rfl) HS0.out (fun hHeld => ?_)
            clear hHeld
            have HT0 : Hid (Two V wr.drew g (g + 1) ys bad) := Lib.hid (by
              obtain ⟨q1, q2, q3⟩ := HT0.out
              exact ⟨rs_next q1 (Below.refl wr.heap.size wr).drew, rs_next q2 (Below.refl wr.heap.size wr).drew, q3.drew⟩)
            refine wpAnyH_take (i := 0) (v := ?_) rfl (by kernel_rfl) (by kernel_rfl) (by kernel_rfl) (fun _ _ _ h => h) (Or.inl ⟨by rfl, ?_⟩) HS0.out ?_
            rotate_left
            · (intro wS hSw; (try dsimp only at hSw); go_simp; try with_reducible rfl)
            simp only [Act.put, List.getElem_toArray, List.getElem_cons_zero, List.getElem_cons_succ, List.setIfInBounds_toArray, List.set_cons_zero, List.set_cons_succ]
            refine wpAnyH_take (i := 1) (v := ?_) rfl (by kernel_rfl) (by kernel_rfl) (by kernel_rfl) (fun _ _ _ h => h) (Or.inl ⟨by rfl, ?_⟩) HS0.out ?_
            rotate_left
            · (intro wS hSw; (try dsimp only at hSw); go_simp; try with_reducible rfl)
            simp only [Act.put, List.getElem_toArray, List.getElem_cons_zero, List.getElem_cons_succ, List.setIfInBounds_toArray, List.set_cons_zero, List.set_cons_succ]
            refine wpAnyH_take (i := 2) (v := ?_) rfl (by kernel_rfl) (by kernel_rfl) (by kernel_rfl) (fun _ _ _ h => h) (Or.inl ⟨by rfl, ?_⟩) HS0.out ?_
            rotate_left
            · (intro wS hSw; (try dsimp only at hSw); go_simp; try with_reducible rfl)
            simp only [Act.put, List.getElem_toArray, List.getElem_cons_zero, List.getElem_cons_succ, List.setIfInBounds_toArray, List.set_cons_zero, List.set_cons_succ]
            refine wpAnyH_take (i := 3) (v := ?_) rfl (by kernel_rfl) (by kernel_rfl) (by kernel_rfl) (fun _ _ _ h => h) (Or.inl ⟨by rfl, ?_⟩) HS0.out ?_
            rotate_left
            · (intro wS hSw; (try dsimp only at hSw); go_simp; try with_reducible rfl)
            simp only [Act.put, List.getElem_toArray, List.getElem_cons_zero, List.getElem_cons_succ, List.setIfInBounds_toArray, List.set_cons_zero, List.set_cons_succ]
            refine wpAnyH_take (i := 4) (v := ?_) rfl (by kernel_rfl) (by kernel_rfl) (by kernel_rfl) (fun _ _ _ h => h) (Or.inl ⟨by rfl, ?_⟩) HS0.out ?_
            rotate_left
            · (intro wS hSw; (try dsimp only at hSw); go_simp; try with_reducible rfl)
            simp only [Act.put, List.getElem_toArray, List.getElem_cons_zero, List.getElem_cons_succ, List.setIfInBounds_toArray, List.set_cons_zero, List.set_cons_succ]
            refine wpAnyH_take (i := 5) (v := ?_) rfl (by kernel_rfl) (by kernel_rfl) (by kernel_rfl) (fun _ _ _ h => h) (Or.inl ⟨by rfl, ?_⟩) HS0.out ?_
            rotate_left
            · (intro wS hSw; (try dsimp only at hSw); go_simp; try with_reducible rfl)
            simp only [Act.put, List.getElem_toArray, List.getElem_cons_zero, List.getElem_cons_succ, List.setIfInBounds_toArray, List.set_cons_zero, List.set_cons_succ]
            refine wpAnyH_take (i := 6) (v := ?_) rfl (by kernel_rfl) (by kernel_rfl) (by kernel_rfl) (fun _ _ _ h => h) (Or.inl ⟨by rfl, ?_⟩) HS0.out ?_
            rotate_left
            · (intro wS hSw; (try dsimp only at hSw); go_simp; try with_reducible rfl)
            simp only [Act.put, List.getElem_toArray, List.getElem_cons_zero, List.getElem_cons_succ, List.setIfInBounds_toArray, List.set_cons_zero, List.set_cons_succ]
            refine wpAnyH_ready (rs := [7]) (by kernel_rfl) (by simp) ?_
            refine AllReadyH.cons rfl (fun K hK => ?_) AllReadyH.nil
            go_simp
            refine (step_any g (g + 1) kk most ys bad V _ HT0.out (by omega) (by omega) (by omega) hyl m0 m1).mono ?_
            rintro e r7 ⟨rfl, zs2, b2, ht2, hl2⟩
            obtain ⟨t1, t2, t3⟩ := ht2
            obtain ⟨A2, c2, hb2, _, _, _⟩ := t2
            have HT2 : Hid (Two V r7 g (g + 1) zs2 b2) := Lib.hid ⟨t1, ⟨A2, c2, hb2, by assumption, by assumption, by assumption⟩, t3⟩
            have HK2 : Hid (r7.cell? ⟨bk, ok + k, none⟩ = some (.int .i64 kk)) := Lib.hid ((RdI.kept (RdI.kept HRK.out HV.out) t3) |> fun h => by
              obtain ⟨a, ha, _, h2, _⟩ := h k (by rw [HNK.out]; exact h')
              obtain rfl := Option.some.inj ha
              have e3 : (⟨bk, ok, none⟩ : Addr).add k = ⟨bk, ok + k, none⟩ := by unfold Addr.add; split <;> simp_all
              rw [e3, HKK.out] at h2
              exact h2)
            have HP := Lib.hid (pleft_any g zs2 b2 V r7 t1 (by omega))
            have HQ := Lib.hid (pbad_any g zs2 b2 V r7 t1)
            obtain ⟨nz, hnz⟩ : ∃ n, zs2.length = n := ⟨_, rfl⟩
            have s0 : r7.cell? ⟨g + 1, 0, none⟩ = some (.slice A2 nz c2) := by rw [← hnz]; exact hb2.cell 0
            have s1 : r7.cell? ⟨g + 1, 1, none⟩ = some (.bool b2) := hb2.cell 1
            rw [hnz] at HP
            have HL2 : Hid (zs2.length ≤ 1000000) := Lib.hid (by omega)
            have HS2 := Lib.hid (And.intro HK2.out (And.intro s0 s1))
            clear t1 t3 hb2 s0 s1 hnz
            go_wp2_with fail
            refine hK.out _ _ HK2.out (fun hHeld => ?_)
            clear hK K hHeld
            try simp only [Act.put, List.getElem_toArray, List.getElem_cons_zero, List.getElem_cons_succ, List.setIfInBounds_toArray, List.set_cons_zero, List.set_cons_succ]
            refine wpAnyH_narrow (S' := fun X : World => X.cell? ⟨bk, ok + k, none⟩ = some (.int .i64 kk) ∧ X.cell? ⟨g + 1, 0, none⟩ = some (.slice A2 nz c2) ∧ X.cell? ⟨g + 1, 1, none⟩ = some (.bool b2)) (fun _ h => h.1) _ _ _ _ ?_
            refine wpAnyH_take (i := 8) (v := ?_) rfl (by kernel_rfl) (by kernel_rfl) (by kernel_rfl) (fun _ _ _ h => h) (Or.inl ⟨by rfl, ?_⟩) HS2.out ?_
            rotate_left
            · (intro wS hSw; (try dsimp only at hSw); go_simp; try with_reducible rfl)
            simp only [Act.put, List.getElem_toArray, List.getElem_cons_zero, List.getElem_cons_succ, List.setIfInBounds_toArray, List.set_cons_zero, List.set_cons_succ]
            refine wpAnyH_take (i := 9) (v := ?_) rfl (by kernel_rfl) (by kernel_rfl) (by kernel_rfl) (fun _ _ _ h => h) (Or.inl ⟨by rfl, ?_⟩) HS2.out ?_
            rotate_left
            · (intro wS hSw; (try dsimp only at hSw); go_simp; try with_reducible rfl)
            simp only [Act.put, List.getElem_toArray, List.getElem_cons_zero, List.getElem_cons_succ, List.setIfInBounds_toArray, List.set_cons_zero, List.set_cons_succ]
            refine wpAnyH_take (i := 10) (v := ?_) rfl (by kernel_rfl) (by kernel_rfl) (by kernel_rfl) (fun _ _ _ h => h) (Or.inl ⟨by rfl, ?_⟩) HS2.out ?_
            rotate_left
            · (intro wS hSw; (try dsimp only at hSw); go_simp; try with_reducible rfl)
            simp only [Act.put, List.getElem_toArray, List.getElem_cons_zero, List.getElem_cons_succ, List.setIfInBounds_toArray, List.set_cons_zero, List.set_cons_succ]
            refine wpAnyH_take (i := 12) (v := ?_) rfl (by kernel_rfl) (by kernel_rfl) (by kernel_rfl) (fun _ _ _ h => h) (Or.inl ⟨by rfl, ?_⟩) HS2.out ?_
            rotate_left
            · (intro wS hSw; (try dsimp only at hSw); go_simp; try with_reducible rfl)
            simp only [Act.put, List.getElem_toArray, List.getElem_cons_zero, List.getElem_cons_succ, List.setIfInBounds_toArray, List.set_cons_zero, List.set_cons_succ]
            refine wpAnyH_take (i := 13) (v := ?_) rfl (by kernel_rfl) (by kernel_rfl) (by kernel_rfl) (fun _ _ _ h => h) (Or.inl ⟨by rfl, ?_⟩) HS2.out ?_
            rotate_left
            · (intro wS hSw; (try dsimp only at hSw); go_simp; try with_reducible rfl)
            simp only [Act.put, List.getElem_toArray, List.getElem_cons_zero, List.getElem_cons_succ, List.setIfInBounds_toArray, List.set_cons_zero, List.set_cons_succ]
            refine wpAnyH_take (i := 14) (v := ?_) rfl (by kernel_rfl) (by kernel_rfl) (by kernel_rfl) (fun _ _ _ h => h) (Or.inl ⟨by rfl, ?_⟩) HS2.out ?_
            rotate_left
            · (intro wS hSw; (try dsimp only at hSw); go_simp; try with_reducible rfl)
            simp only [Act.put, List.getElem_toArray, List.getElem_cons_zero, List.getElem_cons_succ, List.setIfInBounds_toArray, List.set_cons_zero, List.set_cons_succ]
            refine wpAnyH_take (i := 15) (v := ?_) rfl (by kernel_rfl) (by kernel_rfl) (by kernel_rfl) (fun _ _ _ h => h) (Or.inl ⟨by rfl, ?_⟩) HS2.out ?_
            rotate_left
            · (intro wS hSw; (try dsimp only at hSw); go_simp; try with_reducible rfl)
            simp only [Act.put, List.getElem_toArray, List.getElem_cons_zero, List.getElem_cons_succ, List.setIfInBounds_toArray, List.set_cons_zero, List.set_cons_succ]
            refine wpAnyH_take (i := 16) (v := ?_) rfl (by kernel_rfl) (by kernel_rfl) (by kernel_rfl) (fun _ _ _ h => h) (Or.inl ⟨by rfl, ?_⟩) HS2.out ?_
            rotate_left
            · (intro wS hSw; (try dsimp only at hSw); go_simp; try with_reducible rfl)
            simp only [Act.put, List.getElem_toArray, List.getElem_cons_zero, List.getElem_cons_succ, List.setIfInBounds_toArray, List.set_cons_zero, List.set_cons_succ]
            refine wpAnyH_ready (rs := [11]) (by kernel_rfl) (by simp) ?_
            refine AllReadyH.cons rfl (fun K hK => ?_) AllReadyH.nil
            go_simp
            refine (HP.out).mono ?_
            rintro e r11 ⟨rfl, rfl⟩
            go_wp2_with fail
            refine hK.out _ _ HS2.out (fun hHeld => ?_)
            clear hK K hHeld
            try simp only [Act.put, List.getElem_toArray, List.getElem_cons_zero, List.getElem_cons_succ, List.setIfInBounds_toArray, List.set_cons_zero, List.set_cons_succ]
            refine wpAnyH_take (i := 17) (v := ?_) rfl (by kernel_rfl) (by kernel_rfl) (by kernel_rfl) (fun _ _ _ h => h) (Or.inl ⟨by rfl, ?_⟩) HS2.out ?_
            rotate_left
            · (intro wS hSw; (try dsimp only at hSw); go_simp; try with_reducible rfl)
            simp only [Act.put, List.getElem_toArray, List.getElem_cons_zero, List.getElem_cons_succ, List.setIfInBounds_toArray, List.set_cons_zero, List.set_cons_succ]
            refine wpAnyH_take (i := 18) (v := ?_) rfl (by kernel_rfl) (by kernel_rfl) (by kernel_rfl) (fun _ _ _ h => h) (Or.inl ⟨by rfl, ?_⟩) HS2.out ?_
            rotate_left
            · (intro wS hSw; (try dsimp only at hSw); go_simp; try with_reducible rfl)
            simp only [Act.put, List.getElem_toArray, List.getElem_cons_zero, List.getElem_cons_succ, List.setIfInBounds_toArray, List.set_cons_zero, List.set_cons_succ]
            refine wpAnyH_take (i := 19) (v := ?_) rfl (by kernel_rfl) (by kernel_rfl) (by kernel_rfl) (fun _ _ _ h => h) (Or.inl ⟨by rfl, ?_⟩) HS2.out ?_
            rotate_left
            · (intro wS hSw; (try dsimp only at hSw); go_simp; try with_reducible rfl)
            simp only [Act.put, List.getElem_toArray, List.getElem_cons_zero, List.getElem_cons_succ, List.setIfInBounds_toArray, List.set_cons_zero, List.set_cons_succ]
            refine wpAnyH_take (i := 20) (v := ?_) rfl (by kernel_rfl) (by kernel_rfl) (by kernel_rfl) (fun _ _ _ h => h) (Or.inl ⟨by rfl, ?_⟩) HS2.out ?_
            rotate_left
            · (intro wS hSw; (try dsimp only at hSw); go_simp; try with_reducible rfl)
            simp only [Act.put, List.getElem_toArray, List.getElem_cons_zero, List.getElem_cons_succ, List.setIfInBounds_toArray, List.set_cons_zero, List.set_cons_succ]
            refine wpAnyH_take (i := 22) (v := ?_) rfl (by kernel_rfl) (by kernel_rfl) (by kernel_rfl) (fun _ _ _ h => h) (Or.inl ⟨by rfl, ?_⟩) HS2.out ?_
            rotate_left
            · (intro wS hSw; (try dsimp only at hSw); go_simp; try with_reducible rfl)
            simp only [Act.put, List.getElem_toArray, List.getElem_cons_zero, List.getElem_cons_succ, List.setIfInBounds_toArray, List.set_cons_zero, List.set_cons_succ]
            refine wpAnyH_take (i := 23) (v := ?_) rfl (by kernel_rfl) (by kernel_rfl) (by kernel_rfl) (fun _ _ _ h => h) (Or.inl ⟨by rfl, ?_⟩) HS2.out ?_
            rotate_left
            · (intro wS hSw; (try dsimp only at hSw); go_simp; try with_reducible rfl)
            simp only [Act.put, List.getElem_toArray, List.getElem_cons_zero, List.getElem_cons_succ, List.setIfInBounds_toArray, List.set_cons_zero, List.set_cons_succ]
            refine wpAnyH_take (i := 24) (v := ?_) rfl (by kernel_rfl) (by kernel_rfl) (by kernel_rfl) (fun _ _ _ h => h) (Or.inl ⟨by rfl, ?_⟩) HS2.out ?_
            rotate_left
            · (intro wS hSw; (try dsimp only at hSw); go_simp; try with_reducible rfl)
            simp only [Act.put, List.getElem_toArray, List.getElem_cons_zero, List.getElem_cons_succ, List.setIfInBounds_toArray, List.set_cons_zero, List.set_cons_succ]
            refine wpAnyH_take (i := 25) (v := ?_) rfl (by kernel_rfl) (by kernel_rfl) (by kernel_rfl) (fun _ _ _ h => h) (Or.inl ⟨by rfl, ?_⟩) HS2.out ?_
            rotate_left
            · (intro wS hSw; (try dsimp only at hSw); go_simp; try with_reducible rfl)
            simp only [Act.put, List.getElem_toArray, List.getElem_cons_zero, List.getElem_cons_succ, List.setIfInBounds_toArray, List.set_cons_zero, List.set_cons_succ]
            refine wpAnyH_ready (rs := [21]) (by kernel_rfl) (by simp) ?_
            refine AllReadyH.cons rfl (fun K hK => ?_) AllReadyH.nil
            go_simp
            refine (HQ.out).mono ?_
            rintro e r21 ⟨rfl, rfl⟩
            go_wp2_with fail
            refine hK.out _ _ HS2.out (fun hHeld => ?_)
            clear hK K hHeld
            try simp only [Act.put, List.getElem_toArray, List.getElem_cons_zero, List.getElem_cons_succ, List.setIfInBounds_toArray, List.set_cons_zero, List.set_cons_succ]
            refine wpAnyH_take (i := 26) (v := ?_) rfl (by kernel_rfl) (by kernel_rfl) (by kernel_rfl) (fun _ _ _ h => h) (Or.inl ⟨by rfl, ?_⟩) HS2.out ?_
            rotate_left
            · (intro wS hSw; (try dsimp only at hSw); go_simp; try with_reducible rfl)
            simp only [Act.put, List.getElem_toArray, List.getElem_cons_zero, List.getElem_cons_succ, List.setIfInBounds_toArray, List.set_cons_zero, List.set_cons_succ]
            refine wpAnyH_take (i := 27) (v := ?_) rfl (by kernel_rfl) (by kernel_rfl) (by kernel_rfl) (fun _ _ _ h => h) (Or.inl ⟨by rfl, ?_⟩) HS2.out ?_
            rotate_left
            · (intro wS hSw; (try dsimp only at hSw); go_simp; try with_reducible rfl)
            simp only [Act.put, List.getElem_toArray, List.getElem_cons_zero, List.getElem_cons_succ, List.setIfInBounds_toArray, List.set_cons_zero, List.set_cons_succ]
            refine wpAnyH_done (by kernel_rfl) ?_ _
            go_wp2_with fail
            go_roundw
            case rel => exact ⟨k + 1, zs2, b2, by omega, by go_num, HT2, HL2.out⟩
            case measure => simp [intOf]; omega
        · skip
          go_wp2_with fail
          refine (pkalive _).mono ?_
          rintro e W9 ⟨rfl, hb9⟩
          go_wp2_with fail
          go_ret
          exact ⟨rfl, (HV.out.trans (HT0.out.2.2.mono HV.out.size)).trans (hb9.mono (HV.out.trans (HT0.out.2.2.mono HV.out.size)).size)⟩
)
  · rw [if_neg hz]
    have z2 : ((kc : Int) == 0) = false := by rw [beq_eq_false_iff_ne]; omega
    have z3 : ¬ (kc : Int) < (n : Int) := by omega
    go_wp2_with fail
    refine K2.out.mono ?_
    rintro e V0 ⟨rfl, hbV⟩
    have HV := Lib.hid hbV
    clear hz hbV
    go_wp2_with fail
    have hlow : ∃ B, (RdI V0 .u8 A zs) ∧ B = V0.heap.size := ⟨_, RdI.kept HR.out HV.out, rfl⟩
    have PM := pmake_any A c zs V0 (RdI.kept HR.out HV.out) (by rw [HN.out]; omega) hc2
    rw [HN.out] at PM
    refine PM.mono ?_
    rintro e V1 ⟨rfl, hrs, hbV, hsz⟩
    have h1 : RS V0 (V1.alloc (.cells #[.slice A n c, .bool false] 60)) V0.heap.size 85 zs false := rs_next hrs ((Below.refl _ _).alloc (Nat.le_refl _) _)
    have h2 : RS V0 (V1.alloc (.cells #[.slice A n c, .bool false] 60)) (V0.heap.size + 1) 60 zs false := by
      refine ⟨A, c, ?_, RdI.kept HR.out HV.out, by rw [HN.out]; omega, hc2⟩
      have := Blk.new V1 #[.slice A n c, .bool false] 60
      rw [hsz] at this
      rw [HN.out]; exact this
    have HT : Hid (Two V0 (V1.alloc (.cells #[.slice A n c, .bool false] 60)) V0.heap.size (V0.heap.size + 1) zs false) := Lib.hid ⟨h1, h2, hbV.alloc (by omega) _⟩
    have hsz1 := hsz
    clear h1 h2 hrs PM hlow hbV
    go_wp2_with fail
    try rw [hsz]
    obtain ⟨g, hg⟩ : ∃ g, V0.heap.size = g := ⟨_, rfl⟩
    obtain ⟨W, hW⟩ : ∃ W, V1.alloc (.cells #[.slice A n c, .bool false] 60) = W := ⟨_, rfl⟩
    have HGV := Lib.hid hg
    rw [hg, hW] at HT
    rw [hg]
    try rw [hW]
    clear hW hg hsz hsz1
    obtain ⟨V, hVV⟩ : ∃ V, V0 = V := ⟨_, rfl⟩
    rw [hVV] at HT HV HGV
    clear hVV
    have hgV := HGV.out
    go_loopw [13] (fun i wr => ∃ (k : Nat) (ys : List Int) (bad : Bool), k ≤ nk ∧ i = .int .i64 k ∧ Hid (Two V wr g (g + 1) ys bad) ∧ ys.length ≤ 1000000) (fun i _ => nk - (intOf i).toNat)
    case atStart => exact ⟨0, zs, false, by omega, rfl, HT, by rw [HN.out]; omega⟩
    case round =>
      obtain ⟨k, ys, bad, hk, rfl, HT0, hyl⟩ := hrel
      by_cases h : k < nk
      · have h' : k < nk := h
        obtain ⟨bk, ok, rfl, _, hcell⟩ := rdI_row HRK.out (by rw [HNK.out]; omega)
        clear hcell
        have hkw := (HRK.out k (by rw [HNK.out]; exact h'))
        obtain ⟨kz, hkz⟩ : ∃ x, zat ks k = x := ⟨_, rfl⟩
        have hwf : (Lit.int .i64 kz).wf = true := by obtain ⟨_, _, _, _, q⟩ := hkw; rw [hkz] at q; exact q
        have c0 : wr.cell? ⟨bk, ok + k, none⟩ = some (.int .i64 kz) := by
          obtain ⟨a, ha, _, h2, _⟩ := (RdI.kept (RdI.kept HRK.out HV.out) HT0.out.2.2) k (by rw [HNK.out]; exact h')
          obtain rfl := Option.some.inj ha
          have e3 : (⟨bk, ok, none⟩ : Addr).add k = ⟨bk, ok + k, none⟩ := by unfold Addr.add; split <;> simp_all
          rw [e3, hkz] at h2
          exact h2
        have HKZ := Lib.hid hkz
        clear hkw hkz
        by_cases hneg : kz < 0
        · skip
          clear hwf
          go_wp2_with fail
          go_ret
          exact ⟨rfl, HV.out.trans (HT0.out.2.2.mono HV.out.size)⟩
        · obtain ⟨kk, hkk⟩ : ∃ kk : Nat, kz = (kk : Int) := ⟨kz.toNat, by omega⟩
          subst hkk
          have HKK := HKZ
          have HS0 : Hid (wr.cell? ⟨bk, ok + k, none⟩ = some (.int .i64 kk)) := Lib.hid c0
          have hng : ¬ (kk : Int) < 0 := by omega
          go_wp2_with fail
          clear c0
          refine wp_region_held_drew (S := fun X : World => X.cell? ⟨bk, ok + k, none⟩ = some (.int .i64 kk)) (by kernel_rfl) HS0.out (fun hHeld => ?_)
          clear hHeld
          have HT0 : Hid (Two V wr.drew g (g + 1) ys bad) := Lib.hid (by
            obtain ⟨q1, q2, q3⟩ := HT0.out
            exact ⟨rs_next q1 (Below.refl wr.heap.size wr).drew, rs_next q2 (Below.refl wr.heap.size wr).drew, q3.drew⟩)
          refine wpAnyH_take (i := 0) (v := ?_) rfl (by kernel_rfl) (by kernel_rfl) (by kernel_rfl) (fun _ _ _ h => h) (Or.inl ⟨by rfl, ?_⟩) HS0.out ?_
          rotate_left
          · (intro wS hSw; (try dsimp only at hSw); go_simp; try with_reducible rfl)
          simp only [Act.put, List.getElem_toArray, List.getElem_cons_zero, List.getElem_cons_succ, List.setIfInBounds_toArray, List.set_cons_zero, List.set_cons_succ]
          refine wpAnyH_take (i := 1) (v := ?_) rfl (by kernel_rfl) (by kernel_rfl) (by kernel_rfl) (fun _ _ _ h => h) (Or.inl ⟨by rfl, ?_⟩) HS0.out ?_
          rotate_left
          · (intro wS hSw; (try dsimp only at hSw); go_simp; try with_reducible rfl)
          simp only [Act.put, List.getElem_toArray, List.getElem_cons_zero, List.getElem_cons_succ, List.setIfInBounds_toArray, List.set_cons_zero, List.set_cons_succ]
          refine wpAnyH_take (i := 2) (v := ?_) rfl (by kernel_rfl) (by kernel_rfl) (by kernel_rfl) (fun _ _ _ h => h) (Or.inl ⟨by rfl, ?_⟩) HS0.out ?_
          rotate_left
          · (intro wS hSw; (try dsimp only at hSw); go_simp; try with_reducible rfl)
          simp only [Act.put, List.getElem_toArray, List.getElem_cons_zero, List.getElem_cons_succ, List.setIfInBounds_toArray, List.set_cons_zero, List.set_cons_succ]
          refine wpAnyH_take (i := 3) (v := ?_) rfl (by kernel_rfl) (by kernel_rfl) (by kernel_rfl) (fun _ _ _ h => h) (Or.inl ⟨by rfl, ?_⟩) HS0.out ?_
          rotate_left
          · (intro wS hSw; (try dsimp only at hSw); go_simp; try with_reducible rfl)
          simp only [Act.put, List.getElem_toArray, List.getElem_cons_zero, List.getElem_cons_succ, List.setIfInBounds_toArray, List.set_cons_zero, List.set_cons_succ]
          refine wpAnyH_take (i := 4) (v := ?_) rfl (by kernel_rfl) (by kernel_rfl) (by kernel_rfl) (fun _ _ _ h => h) (Or.inl ⟨by rfl, ?_⟩) HS0.out ?_
          rotate_left
          · (intro wS hSw; (try dsimp only at hSw); go_simp; try with_reducible rfl)
          simp only [Act.put, List.getElem_toArray, List.getElem_cons_zero, List.getElem_cons_succ, List.setIfInBounds_toArray, List.set_cons_zero, List.set_cons_succ]
          refine wpAnyH_take (i := 5) (v := ?_) rfl (by kernel_rfl) (by kernel_rfl) (by kernel_rfl) (fun _ _ _ h => h) (Or.inl ⟨by rfl, ?_⟩) HS0.out ?_
          rotate_left
          · (intro wS hSw; (try dsimp only at hSw); go_simp; try with_reducible rfl)
          simp only [Act.put, List.getElem_toArray, List.getElem_cons_zero, List.getElem_cons_succ, List.setIfInBounds_toArray, List.set_cons_zero, List.set_cons_succ]
          refine wpAnyH_take (i := 6) (v := ?_) rfl (by kernel_rfl) (by kernel_rfl) (by kernel_rfl) (fun _ _ _ h => h) (Or.inl ⟨by rfl, ?_⟩) HS0.out ?_
          rotate_left
          · (intro wS hSw; (try dsimp only at hSw); go_simp; try with_reducible rfl)
          simp only [Act.put, List.getElem_toArray, List.getElem_cons_zero, List.getElem_cons_succ, List.setIfInBounds_toArray, List.set_cons_zero, List.set_cons_succ]
          refine wpAnyH_ready (rs := [7]) (by kernel_rfl) (by simp) ?_
          refine AllReadyH.cons rfl (fun K hK => ?_) AllReadyH.nil
          go_simp
          refine (step_any g (g + 1) kk most ys bad V _ HT0.out (by omega) (by omega) (by omega) hyl m0 m1).mono ?_
          rintro e r7 ⟨rfl, zs2, b2, ht2, hl2⟩
          obtain ⟨t1, t2, t3⟩ := ht2
          obtain ⟨A2, c2, hb2, _, _, _⟩ := t2
          have HT2 : Hid (Two V r7 g (g + 1) zs2 b2) := Lib.hid ⟨t1, ⟨A2, c2, hb2, by assumption, by assumption, by assumption⟩, t3⟩
          have HK2 : Hid (r7.cell? ⟨bk, ok + k, none⟩ = some (.int .i64 kk)) := Lib.hid ((RdI.kept (RdI.kept HRK.out HV.out) t3) |> fun h => by
            obtain ⟨a, ha, _, h2, _⟩ := h k (by rw [HNK.out]; exact h')
            obtain rfl := Option.some.inj ha
            have e3 : (⟨bk, ok, none⟩ : Addr).add k = ⟨bk, ok + k, none⟩ := by unfold Addr.add; split <;> simp_all
            rw [e3, HKK.out] at h2
            exact h2)
          have HP := Lib.hid (pleft_any g zs2 b2 V r7 t1 (by omega))
          have HQ := Lib.hid (pbad_any g zs2 b2 V r7 t1)
          obtain ⟨nz, hnz⟩ : ∃ n, zs2.length = n := ⟨_, rfl⟩
          have s0 : r7.cell? ⟨g + 1, 0, none⟩ = some (.slice A2 nz c2) := by rw [← hnz]; exact hb2.cell 0
          have s1 : r7.cell? ⟨g + 1, 1, none⟩ = some (.bool b2) := hb2.cell 1
          rw [hnz] at HP
          have HL2 : Hid (zs2.length ≤ 1000000) := Lib.hid (by omega)
          have HS2 := Lib.hid (And.intro HK2.out (And.intro s0 s1))
          clear t1 t3 hb2 s0 s1 hnz
          go_wp2_with fail
          refine hK.out _ _ HK2.out (fun hHeld => ?_)
          clear hK K hHeld
          try simp only [Act.put, List.getElem_toArray, List.getElem_cons_zero, List.getElem_cons_succ, List.setIfInBounds_toArray, List.set_cons_zero, List.set_cons_succ]
          refine wpAnyH_narrow (S' := fun X : World => X.cell? ⟨bk, ok + k, none⟩ = some (.int .i64 kk) ∧ X.cell? ⟨g + 1, 0, none⟩ = some (.slice A2 nz c2) ∧ X.cell? ⟨g + 1, 1, none⟩ = some (.bool b2)) (fun _ h => h.1) _ _ _ _ ?_
          refine wpAnyH_take (i := 8) (v := ?_) rfl (by kernel_rfl) (by kernel_rfl) (by kernel_rfl) (fun _ _ _ h => h) (Or.inl ⟨by rfl, ?_⟩) HS2.out ?_
          rotate_left
          · (intro wS hSw; (try dsimp only at hSw); go_simp; try with_reducible rfl)
          simp only [Act.put, List.getElem_toArray, List.getElem_cons_zero, List.getElem_cons_succ, List.setIfInBounds_toArray, List.set_cons_zero, List.set_cons_succ]
          refine wpAnyH_take (i := 9) (v := ?_) rfl (by kernel_rfl) (by kernel_rfl) (by kernel_rfl) (fun _ _ _ h => h) (Or.inl ⟨by rfl, ?_⟩) HS2.out ?_
          rotate_left
          · (intro wS hSw; (try dsimp only at hSw); go_simp; try with_reducible rfl)
          simp only [Act.put, List.getElem_toArray, List.getElem_cons_zero, List.getElem_cons_succ, List.setIfInBounds_toArray, List.set_cons_zero, List.set_cons_succ]
          refine wpAnyH_take (i := 10) (v := ?_) rfl (by kernel_rfl) (by kernel_rfl) (by kernel_rfl) (fun _ _ _ h => h) (Or.inl ⟨by rfl, ?_⟩) HS2.out ?_
          rotate_left
          · (intro wS hSw; (try dsimp only at hSw); go_simp; try with_reducible rfl)
          simp only [Act.put, List.getElem_toArray, List.getElem_cons_zero, List.getElem_cons_succ, List.setIfInBounds_toArray, List.set_cons_zero, List.set_cons_succ]
          refine wpAnyH_take (i := 12) (v := ?_) rfl (by kernel_rfl) (by kernel_rfl) (by kernel_rfl) (fun _ _ _ h => h) (Or.inl ⟨by rfl, ?_⟩) HS2.out ?_
          rotate_left
          · (intro wS hSw; (try dsimp only at hSw); go_simp; try with_reducible rfl)
          simp only [Act.put, List.getElem_toArray, List.getElem_cons_zero, List.getElem_cons_succ, List.setIfInBounds_toArray, List.set_cons_zero, List.set_cons_succ]
          refine wpAnyH_take (i := 13) (v := ?_) rfl (by kernel_rfl) (by kernel_rfl) (by kernel_rfl) (fun _ _ _ h => h) (Or.inl ⟨by rfl, ?_⟩) HS2.out ?_
          rotate_left
          · (intro wS hSw; (try dsimp only at hSw); go_simp; try with_reducible rfl)
          simp only [Act.put, List.getElem_toArray, List.getElem_cons_zero, List.getElem_cons_succ, List.setIfInBounds_toArray, List.set_cons_zero, List.set_cons_succ]
          refine wpAnyH_take (i := 14) (v := ?_) rfl (by kernel_rfl) (by kernel_rfl) (by kernel_rfl) (fun _ _ _ h => h) (Or.inl ⟨by rfl, ?_⟩) HS2.out ?_
          rotate_left
          · (intro wS hSw; (try dsimp only at hSw); go_simp; try with_reducible rfl)
          simp only [Act.put, List.getElem_toArray, List.getElem_cons_zero, List.getElem_cons_succ, List.setIfInBounds_toArray, List.set_cons_zero, List.set_cons_succ]
          refine wpAnyH_take (i := 15) (v := ?_) rfl (by kernel_rfl) (by kernel_rfl) (by kernel_rfl) (fun _ _ _ h => h) (Or.inl ⟨by rfl, ?_⟩) HS2.out ?_
          rotate_left
          · (intro wS hSw; (try dsimp only at hSw); go_simp; try with_reducible rfl)
          simp only [Act.put, List.getElem_toArray, List.getElem_cons_zero, List.getElem_cons_succ, List.setIfInBounds_toArray, List.set_cons_zero, List.set_cons_succ]
          refine wpAnyH_take (i := 16) (v := ?_) rfl (by kernel_rfl) (by kernel_rfl) (by kernel_rfl) (fun _ _ _ h => h) (Or.inl ⟨by rfl, ?_⟩) HS2.out ?_
          rotate_left
          · (intro wS hSw; (try dsimp only at hSw); go_simp; try with_reducible rfl)
          simp only [Act.put, List.getElem_toArray, List.getElem_cons_zero, List.getElem_cons_succ, List.setIfInBounds_toArray, List.set_cons_zero, List.set_cons_succ]
          refine wpAnyH_ready (rs := [11]) (by kernel_rfl) (by simp) ?_
          refine AllReadyH.cons rfl (fun K hK => ?_) AllReadyH.nil
          go_simp
          refine (HP.out).mono ?_
          rintro e r11 ⟨rfl, rfl⟩
          go_wp2_with fail
          refine hK.out _ _ HS2.out (fun hHeld => ?_)
          clear hK K hHeld
          try simp only [Act.put, List.getElem_toArray, List.getElem_cons_zero, List.getElem_cons_succ, List.setIfInBounds_toArray, List.set_cons_zero, List.set_cons_succ]
          refine wpAnyH_take (i := 17) (v := ?_) rfl (by kernel_rfl) (by kernel_rfl) (by kernel_rfl) (fun _ _ _ h => h) (Or.inl ⟨by rfl, ?_⟩) HS2.out ?_
          rotate_left
          · (intro wS hSw; (try dsimp only at hSw); go_simp; try with_reducible rfl)
          simp only [Act.put, List.getElem_toArray, List.getElem_cons_zero, List.getElem_cons_succ, List.setIfInBounds_toArray, List.set_cons_zero, List.set_cons_succ]
          refine wpAnyH_take (i := 18) (v := ?_) rfl (by kernel_rfl) (by kernel_rfl) (by kernel_rfl) (fun _ _ _ h => h) (Or.inl ⟨by rfl, ?_⟩) HS2.out ?_
          rotate_left
          · (intro wS hSw; (try dsimp only at hSw); go_simp; try with_reducible rfl)
          simp only [Act.put, List.getElem_toArray, List.getElem_cons_zero, List.getElem_cons_succ, List.setIfInBounds_toArray, List.set_cons_zero, List.set_cons_succ]
          refine wpAnyH_take (i := 19) (v := ?_) rfl (by kernel_rfl) (by kernel_rfl) (by kernel_rfl) (fun _ _ _ h => h) (Or.inl ⟨by rfl, ?_⟩) HS2.out ?_
          rotate_left
          · (intro wS hSw; (try dsimp only at hSw); go_simp; try with_reducible rfl)
          simp only [Act.put, List.getElem_toArray, List.getElem_cons_zero, List.getElem_cons_succ, List.setIfInBounds_toArray, List.set_cons_zero, List.set_cons_succ]
          refine wpAnyH_take (i := 20) (v := ?_) rfl (by kernel_rfl) (by kernel_rfl) (by kernel_rfl) (fun _ _ _ h => h) (Or.inl ⟨by rfl, ?_⟩) HS2.out ?_
          rotate_left
          · (intro wS hSw; (try dsimp only at hSw); go_simp; try with_reducible rfl)
          simp only [Act.put, List.getElem_toArray, List.getElem_cons_zero, List.getElem_cons_succ, List.setIfInBounds_toArray, List.set_cons_zero, List.set_cons_succ]
          refine wpAnyH_take (i := 22) (v := ?_) rfl (by kernel_rfl) (by kernel_rfl) (by kernel_rfl) (fun _ _ _ h => h) (Or.inl ⟨by rfl, ?_⟩) HS2.out ?_
          rotate_left
          · (intro wS hSw; (try dsimp only at hSw); go_simp; try with_reducible rfl)
          simp only [Act.put, List.getElem_toArray, List.getElem_cons_zero, List.getElem_cons_succ, List.setIfInBounds_toArray, List.set_cons_zero, List.set_cons_succ]
          refine wpAnyH_take (i := 23) (v := ?_) rfl (by kernel_rfl) (by kernel_rfl) (by kernel_rfl) (fun _ _ _ h => h) (Or.inl ⟨by rfl, ?_⟩) HS2.out ?_
          rotate_left
          · (intro wS hSw; (try dsimp only at hSw); go_simp; try with_reducible rfl)
          simp only [Act.put, List.getElem_toArray, List.getElem_cons_zero, List.getElem_cons_succ, List.setIfInBounds_toArray, List.set_cons_zero, List.set_cons_succ]
          refine wpAnyH_take (i := 24) (v := ?_) rfl (by kernel_rfl) (by kernel_rfl) (by kernel_rfl) (fun _ _ _ h => h) (Or.inl ⟨by rfl, ?_⟩) HS2.out ?_
          rotate_left
          · (intro wS hSw; (try dsimp only at hSw); go_simp; try with_reducible rfl)
          simp only [Act.put, List.getElem_toArray, List.getElem_cons_zero, List.getElem_cons_succ, List.setIfInBounds_toArray, List.set_cons_zero, List.set_cons_succ]
          refine wpAnyH_take (i := 25) (v := ?_) rfl (by kernel_rfl) (by kernel_rfl) (by kernel_rfl) (fun _ _ _ h => h) (Or.inl ⟨by rfl, ?_⟩) HS2.out ?_
          rotate_left
          · (intro wS hSw; (try dsimp only at hSw); go_simp; try with_reducible rfl)
          simp only [Act.put, List.getElem_toArray, List.getElem_cons_zero, List.getElem_cons_succ, List.setIfInBounds_toArray, List.set_cons_zero, List.set_cons_succ]
          refine wpAnyH_ready (rs := [21]) (by kernel_rfl) (by simp) ?_
          refine AllReadyH.cons rfl (fun K hK => ?_) AllReadyH.nil
          go_simp
          refine (HQ.out).mono ?_
          rintro e r21 ⟨rfl, rfl⟩
          go_wp2_with fail
          refine hK.out _ _ HS2.out (fun hHeld => ?_)
          clear hK K hHeld
          try simp only [Act.put, List.getElem_toArray, List.getElem_cons_zero, List.getElem_cons_succ, List.setIfInBounds_toArray, List.set_cons_zero, List.set_cons_succ]
          refine wpAnyH_take (i := 26) (v := ?_) rfl (by kernel_rfl) (by kernel_rfl) (by kernel_rfl) (fun _ _ _ h => h) (Or.inl ⟨by rfl, ?_⟩) HS2.out ?_
          rotate_left
          · (intro wS hSw; (try dsimp only at hSw); go_simp; try with_reducible rfl)
          simp only [Act.put, List.getElem_toArray, List.getElem_cons_zero, List.getElem_cons_succ, List.setIfInBounds_toArray, List.set_cons_zero, List.set_cons_succ]
          refine wpAnyH_take (i := 27) (v := ?_) rfl (by kernel_rfl) (by kernel_rfl) (by kernel_rfl) (fun _ _ _ h => h) (Or.inl ⟨by rfl, ?_⟩) HS2.out ?_
          rotate_left
          · (intro wS hSw; (try dsimp only at hSw); go_simp; try with_reducible rfl)
          simp only [Act.put, List.getElem_toArray, List.getElem_cons_zero, List.getElem_cons_succ, List.setIfInBounds_toArray, List.set_cons_zero, List.set_cons_succ]
          refine wpAnyH_done (by kernel_rfl) ?_ _
          go_wp2_with fail
          go_roundw
          case rel => exact ⟨k + 1, zs2, b2, by omega, by go_num, HT2, HL2.out⟩
          case measure => simp [intOf]; omega
      · skip
        go_wp2_with fail
        refine (pkalive _).mono ?_
        rintro e W9 ⟨rfl, hb9⟩
        go_wp2_with fail
        go_ret
        exact ⟨rfl, (HV.out.trans (HT0.out.2.2.mono HV.out.size)).trans (hb9.mono (HV.out.trans (HT0.out.2.2.mono HV.out.size)).size)⟩


end Go.Proofs.Ytnjdeikikdieoab.packReads
