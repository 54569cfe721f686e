/- The document's Same of two scenarios. -/
import Derived.Test.YtmdjncknjbjmbaaRows
import Derived.Test.YtmdjncknjbjmbaaRowKit
import Derived.Test.YtmdjncknjbjmbaaRowS
import Derived.Test.YtmdjncknjbjmbaaRowZ
import Derived.Test.YtmdjncknjbjmbaaBlocks
import Derived.Test.YtmdjncknjbjmbaaVetA
import Derived.Test.YtmdjncknjbjmbaaVetB
import Derived.Test.YtmdjncknjbjmbaaVetC
import Derived.Test.YtmdjncknjbjmbaaVetD
import Derived.Test.YtmdjncknjbjmbaaVetE
import Derived.Test.YtmdjncknjbjmbaaVetF
import Derived.WalkKit
import Derived.IntWalk
import Derived.Lib.Hide
import Derived.Lib.SmallJoins
import Derived.WalkSpells
import Derived.WalkLawsBesides
import Derived.Deep.QuietTactic
import Derived.Deep.RegionHeld3
import Derived.Deep.LoopGhost
import Derived.BigQuiet
import Derived.Below
import Derived.Lib.Strings
namespace Go.Proofs.Ytmdjncknjbjmbaa
open Go.RowKit
set_option linter.unusedSimpArgs false
set_option linter.unusedVariables false
/-- are two scenarios the same? -/
def smP (s0 s1 s2 s3 s4 s5 s6 s7 s9 s10 s11 s12 t0 t1 t2 t3 t4 t5 t6 t7 t9 t10 t11 t12 : Int) (n m : Nat) (z y : Nat → Nat → Int) : Prop := (n = m ∧ sgB z y n = true) ∧ s0 = t0 ∧ s1 = t1 ∧ s2 = t2 ∧ s3 = t3 ∧ s4 = t4 ∧ s5 = t5 ∧ s6 = t6 ∧ s7 = t7 ∧ s9 = t9 ∧ s10 = t10 ∧ s11 = t11 ∧ s12 = t12
set_option maxHeartbeats 1000000 in
theorem rsame_len (s0 s1 s2 s3 s4 s5 s6 s7 s9 s10 s11 s12 t0 t1 t2 t3 t4 t5 t6 t7 t9 t10 t11 t12 : Int) (A B : Option Addr) (n c m d : Nat) (w : World) (hl : n ≠ m) :
    Calls Try.prog 23 #[(.agg #[.int .i64 s0, .int .i64 s1, .int .i64 s2, .int .i64 s3, .int .i64 s4, .int .i64 s5, .int .i64 s6, .int .i64 s7, .slice A n c, .int .i64 s9, .int .i64 s10, .int .i64 s11, .int .i64 s12]), (.agg #[.int .i64 t0, .int .i64 t1, .int .i64 t2, .int .i64 t3, .int .i64 t4, .int .i64 t5, .int .i64 t6, .int .i64 t7, .slice B m d, .int .i64 t9, .int .i64 t10, .int .i64 t11, .int .i64 t12])] w fun e w' => e = .returned (.bool false) ∧ Below w.heap.size w w' := by
  have h1 : ((n : Int) == m) = false := by rw [beq_eq_false_iff_ne]; omega
  have h2 : (n == m) = false := by rw [beq_eq_false_iff_ne]; exact hl
  clear hl
  go_enter Try.func23, Try.ntmps23
  go_wp2_with fail
  go_ret
  exact ⟨rfl, ((Below.refl _ _).alloc (Nat.le_refl _) _).alloc (by simp) _⟩
set_option maxRecDepth 100000 in
set_option maxHeartbeats 16000000 in
theorem rsame_any (s0 s1 s2 s3 s4 s5 s6 s7 s9 s10 s11 s12 t0 t1 t2 t3 t4 t5 t6 t7 t9 t10 t11 t12 : Int) (A B : Option Addr) (n c d : Nat) (z y : Nat → Nat → Int) (v : Bool) (w : World) (ha : RdZ w 3 A n z) (hb : RdZ w 3 B n y) (hm : n ≤ 9223372036854775807)
    (hy : sgB z y n = true → s0 = t0 → s1 = t1 → s2 = t2 → s3 = t3 → s4 = t4 → s5 = t5 → s6 = t6 → s7 = t7 → s9 = t9 → s10 = t10 → s11 = t11 → s12 = t12 → v = true) (hn : ¬ (sgB z y n = true ∧ s0 = t0 ∧ s1 = t1 ∧ s2 = t2 ∧ s3 = t3 ∧ s4 = t4 ∧ s5 = t5 ∧ s6 = t6 ∧ s7 = t7 ∧ s9 = t9 ∧ s10 = t10 ∧ s11 = t11 ∧ s12 = t12) → v = false) :
    Calls Try.prog 23 #[(.agg #[.int .i64 s0, .int .i64 s1, .int .i64 s2, .int .i64 s3, .int .i64 s4, .int .i64 s5, .int .i64 s6, .int .i64 s7, .slice A n c, .int .i64 s9, .int .i64 s10, .int .i64 s11, .int .i64 s12]), (.agg #[.int .i64 t0, .int .i64 t1, .int .i64 t2, .int .i64 t3, .int .i64 t4, .int .i64 t5, .int .i64 t6, .int .i64 t7, .slice B n d, .int .i64 t9, .int .i64 t10, .int .i64 t11, .int .i64 t12])] w fun e w' => e = .returned (.bool v) ∧ Below w.heap.size w w' := by
  have HY := Lib.hid hy
  have HNo := Lib.hid hn
  have T0 := Lib.hid (tb_start w #[(.int .i64 s0 : Value), .int .i64 s1, .int .i64 s2, .int .i64 s3, .int .i64 s4, .int .i64 s5, .int .i64 s6, .int .i64 s7, .slice A n c, .int .i64 s9, .int .i64 s10, .int .i64 s11, .int .i64 s12] #[(.int .i64 t0 : Value), .int .i64 t1, .int .i64 t2, .int .i64 t3, .int .i64 t4, .int .i64 t5, .int .i64 t6, .int .i64 t7, .slice B n d, .int .i64 t9, .int .i64 t10, .int .i64 t11, .int .i64 t12] 29 29)
  have B0 := Lib.hid ((((Below.refl w.heap.size w).alloc (Nat.le_refl _) (.cells #[(.int .i64 s0 : Value), .int .i64 s1, .int .i64 s2, .int .i64 s3, .int .i64 s4, .int .i64 s5, .int .i64 s6, .int .i64 s7, .slice A n c, .int .i64 s9, .int .i64 s10, .int .i64 s11, .int .i64 s12] 29)).alloc (by simp) (.cells #[(.int .i64 t0 : Value), .int .i64 t1, .int .i64 t2, .int .i64 t3, .int .i64 t4, .int .i64 t5, .int .i64 t6, .int .i64 t7, .slice B n d, .int .i64 t9, .int .i64 t10, .int .i64 t11, .int .i64 t12] 29)))
  clear hy hn
  go_enter Try.func23, Try.ntmps23
  go_wp2_with fail
  go_loopg [5] n (fun gh i wr => ∃ k : Nat, k ≤ n ∧ gh = n - k ∧ i = .int .i64 k ∧ Hid (sgB z y k = true) ∧ Hid (TB wr w.heap.size #[(.int .i64 s0 : Value), .int .i64 s1, .int .i64 s2, .int .i64 s3, .int .i64 s4, .int .i64 s5, .int .i64 s6, .int .i64 s7, .slice A n c, .int .i64 s9, .int .i64 s10, .int .i64 s11, .int .i64 s12] #[(.int .i64 t0 : Value), .int .i64 t1, .int .i64 t2, .int .i64 t3, .int .i64 t4, .int .i64 t5, .int .i64 t6, .int .i64 t7, .slice B n d, .int .i64 t9, .int .i64 t10, .int .i64 t11, .int .i64 t12]) ∧ Below w.heap.size w wr)
  case atStart => exact ⟨0, by omega, rfl, rfl, Lib.hid rfl, T0, B0.out⟩
  case round =>
    obtain ⟨k, hk, rfl, rfl, HS, HT, hbw⟩ := hrel
    by_cases h : k < n
    · have a8 := HT.out.1 8 _ rfl
      have b8 := HT.out.2 8 _ rfl
      obtain ⟨b1, o1, rfl, _, hc⟩ := rdZ_row (ha.kept hbw) (by omega) (by omega)
      obtain ⟨b2, o2, rfl, _, hd⟩ := rdZ_row (hb.kept hbw) (by omega) (by omega)
      have c0 : wr.cell? ⟨b1, o1 + k * 3, none⟩ = _ := hc k 0 h (by omega)
      have c1 := hc k 1 h (by omega)
      have c2 := hc k 2 h (by omega)
      have d0 : wr.cell? ⟨b2, o2 + k * 3, none⟩ = _ := hd k 0 h (by omega)
      have d1 := hd k 1 h (by omega)
      have d2 := hd k 2 h (by omega)
      clear hc hd
      have GOOD := Lib.hid (fun h0 h1 h2 => sgB_same (z := z) (y := y) HS.out h0 h1 h2)
      have BAD := Lib.hid (fun hh => sgB_not (z := z) (y := y) (k := k) hh n h)
      obtain ⟨z0, e0⟩ : ∃ v, z k 0 = v := ⟨_, rfl⟩
      obtain ⟨z1, e1⟩ : ∃ v, z k 1 = v := ⟨_, rfl⟩
      obtain ⟨z2, e2⟩ : ∃ v, z k 2 = v := ⟨_, rfl⟩
      obtain ⟨y0, f0⟩ : ∃ v, y k 0 = v := ⟨_, rfl⟩
      obtain ⟨y1, f1⟩ : ∃ v, y k 1 = v := ⟨_, rfl⟩
      obtain ⟨y2, f2⟩ : ∃ v, y k 2 = v := ⟨_, rfl⟩
      rw [e0, f0, e1, f1, e2, f2] at GOOD BAD
      rw [e0] at c0
      rw [e1] at c1
      rw [e2] at c2
      rw [f0] at d0
      rw [f1] at d1
      rw [f2] at d2
      have HBw := Lib.hid hbw
      clear e0 e1 e2 f0 f1 f2 hbw
      by_cases g0 : z0 = y0
      · by_cases g1 : z1 = y1
        · by_cases g2 : z2 = y2
          · have F := Lib.hid (GOOD.out g0 g1 g2)
            subst g0; subst g1; subst g2
            go_wp2_with fail
            go_quiet (fail)
            go_wp2_with fail
            go_roundg (n - (k + 1))
            case measure => omega
            case rel => exact ⟨k + 1, by omega, rfl, by go_num, F, Lib.hid HT.out, below_drewN HBw.out _⟩
          · have F := Lib.hid (HNo.out (fun hc => by have := BAD.out (fun hc => g2 hc.2.2); rw [this] at hc; cases hc.1))
            subst g0; subst g1
            go_wp2_with fail
            go_quiet (fail)
            go_wp2_with fail
            go_ret
            exact ⟨vretB (by rw [F.out]), below_drewN HBw.out _⟩
        · have F := Lib.hid (HNo.out (fun hc => by have := BAD.out (fun hc => g1 hc.2.1); rw [this] at hc; cases hc.1))
          subst g0
          go_wp2_with fail
          go_quiet (fail)
          go_wp2_with fail
          go_ret
          exact ⟨vretB (by rw [F.out]), below_drewN HBw.out _⟩
      · have F := Lib.hid (HNo.out (fun hc => by have := BAD.out (fun hc => g0 hc.1); rw [this] at hc; cases hc.1))
        go_wp2_with fail
        go_quiet (fail)
        go_wp2_with fail
        go_ret
        exact ⟨vretB (by rw [F.out]), below_drewN HBw.out _⟩
    · obtain rfl : k = n := by omega
      have a0 := HT.out.1 0 _ rfl
      have b0 := HT.out.2 0 _ rfl
      have a1 := HT.out.1 1 _ rfl
      have b1 := HT.out.2 1 _ rfl
      have a2 := HT.out.1 2 _ rfl
      have b2 := HT.out.2 2 _ rfl
      have a3 := HT.out.1 3 _ rfl
      have b3 := HT.out.2 3 _ rfl
      have a4 := HT.out.1 4 _ rfl
      have b4 := HT.out.2 4 _ rfl
      have a5 := HT.out.1 5 _ rfl
      have b5 := HT.out.2 5 _ rfl
      have a6 := HT.out.1 6 _ rfl
      have b6 := HT.out.2 6 _ rfl
      have a7 := HT.out.1 7 _ rfl
      have b7 := HT.out.2 7 _ rfl
      have a8 := HT.out.1 8 _ rfl
      have b8 := HT.out.2 8 _ rfl
      have a9 := HT.out.1 9 _ rfl
      have b9 := HT.out.2 9 _ rfl
      have a10 := HT.out.1 10 _ rfl
      have b10 := HT.out.2 10 _ rfl
      have a11 := HT.out.1 11 _ rfl
      have b11 := HT.out.2 11 _ rfl
      have a12 := HT.out.1 12 _ rfl
      have b12 := HT.out.2 12 _ rfl
      by_cases g0 : s0 = t0
      · subst g0
        by_cases g1 : s1 = t1
        · subst g1
          by_cases g2 : s2 = t2
          · subst g2
            by_cases g3 : s3 = t3
            · subst g3
              by_cases g4 : s4 = t4
              · subst g4
                by_cases g5 : s5 = t5
                · subst g5
                  by_cases g6 : s6 = t6
                  · subst g6
                    by_cases g7 : s7 = t7
                    · subst g7
                      by_cases g9 : s9 = t9
                      · subst g9
                        by_cases g10 : s10 = t10
                        · subst g10
                          by_cases g11 : s11 = t11
                          · subst g11
                            by_cases g12 : s12 = t12
                            · subst g12
                              have F := Lib.hid (HY.out HS.out rfl rfl rfl rfl rfl rfl rfl rfl rfl rfl rfl rfl)
                              go_wp2_with fail
                              go_ret
                              exact ⟨vretB (by rw [F.out]), hbw⟩
                            · have F := Lib.hid (HNo.out (fun hc => g12 hc.2.2.2.2.2.2.2.2.2.2.2.2))
                              skip
                              have q1 : (s12 == t12) = false := by rw [beq_eq_false_iff_ne]; exact g12
                              go_wp2_with fail
                              go_ret
                              exact ⟨vretB (by rw [F.out]), hbw⟩
                          · have F := Lib.hid (HNo.out (fun hc => g11 hc.2.2.2.2.2.2.2.2.2.2.2.1))
                            clear a12 b12
                            have q1 : (s11 == t11) = false := by rw [beq_eq_false_iff_ne]; exact g11
                            go_wp2_with fail
                            go_ret
                            exact ⟨vretB (by rw [F.out]), hbw⟩
                        · have F := Lib.hid (HNo.out (fun hc => g10 hc.2.2.2.2.2.2.2.2.2.2.1))
                          clear a11 b11 a12 b12
                          have q1 : (s10 == t10) = false := by rw [beq_eq_false_iff_ne]; exact g10
                          go_wp2_with fail
                          go_ret
                          exact ⟨vretB (by rw [F.out]), hbw⟩
                      · have F := Lib.hid (HNo.out (fun hc => g9 hc.2.2.2.2.2.2.2.2.2.1))
                        clear a10 b10 a11 b11 a12 b12
                        have q1 : (s9 == t9) = false := by rw [beq_eq_false_iff_ne]; exact g9
                        go_wp2_with fail
                        go_ret
                        exact ⟨vretB (by rw [F.out]), hbw⟩
                    · have F := Lib.hid (HNo.out (fun hc => g7 hc.2.2.2.2.2.2.2.2.1))
                      clear a9 b9 a10 b10 a11 b11 a12 b12
                      have q1 : (s7 == t7) = false := by rw [beq_eq_false_iff_ne]; exact g7
                      go_wp2_with fail
                      go_ret
                      exact ⟨vretB (by rw [F.out]), hbw⟩
                  · have F := Lib.hid (HNo.out (fun hc => g6 hc.2.2.2.2.2.2.2.1))
                    clear a7 b7 a9 b9 a10 b10 a11 b11 a12 b12
                    have q1 : (s6 == t6) = false := by rw [beq_eq_false_iff_ne]; exact g6
                    go_wp2_with fail
                    go_ret
                    exact ⟨vretB (by rw [F.out]), hbw⟩
                · have F := Lib.hid (HNo.out (fun hc => g5 hc.2.2.2.2.2.2.1))
                  clear a6 b6 a7 b7 a9 b9 a10 b10 a11 b11 a12 b12
                  have q1 : (s5 == t5) = false := by rw [beq_eq_false_iff_ne]; exact g5
                  go_wp2_with fail
                  go_ret
                  exact ⟨vretB (by rw [F.out]), hbw⟩
              · have F := Lib.hid (HNo.out (fun hc => g4 hc.2.2.2.2.2.1))
                clear a5 b5 a6 b6 a7 b7 a9 b9 a10 b10 a11 b11 a12 b12
                have q1 : (s4 == t4) = false := by rw [beq_eq_false_iff_ne]; exact g4
                go_wp2_with fail
                go_ret
                exact ⟨vretB (by rw [F.out]), hbw⟩
            · have F := Lib.hid (HNo.out (fun hc => g3 hc.2.2.2.2.1))
              clear a4 b4 a5 b5 a6 b6 a7 b7 a9 b9 a10 b10 a11 b11 a12 b12
              have q1 : (s3 == t3) = false := by rw [beq_eq_false_iff_ne]; exact g3
              go_wp2_with fail
              go_ret
              exact ⟨vretB (by rw [F.out]), hbw⟩
          · have F := Lib.hid (HNo.out (fun hc => g2 hc.2.2.2.1))
            clear a3 b3 a4 b4 a5 b5 a6 b6 a7 b7 a9 b9 a10 b10 a11 b11 a12 b12
            have q1 : (s2 == t2) = false := by rw [beq_eq_false_iff_ne]; exact g2
            go_wp2_with fail
            go_ret
            exact ⟨vretB (by rw [F.out]), hbw⟩
        · have F := Lib.hid (HNo.out (fun hc => g1 hc.2.2.1))
          clear a2 b2 a3 b3 a4 b4 a5 b5 a6 b6 a7 b7 a9 b9 a10 b10 a11 b11 a12 b12
          have q1 : (s1 == t1) = false := by rw [beq_eq_false_iff_ne]; exact g1
          go_wp2_with fail
          go_ret
          exact ⟨vretB (by rw [F.out]), hbw⟩
      · have F := Lib.hid (HNo.out (fun hc => g0 hc.2.1))
        clear a1 b1 a2 b2 a3 b3 a4 b4 a5 b5 a6 b6 a7 b7 a9 b9 a10 b10 a11 b11 a12 b12
        have q1 : (s0 == t0) = false := by rw [beq_eq_false_iff_ne]; exact g0
        go_wp2_with fail
        go_ret
        exact ⟨vretB (by rw [F.out]), hbw⟩
end Go.Proofs.Ytmdjncknjbjmbaa
