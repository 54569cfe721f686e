/- vet.Same of two scenarios. -/
import Derived.Test.YtmdjncknjbjmbaaRows
import Derived.Test.YtmdjncknjbjmbaaRowKit
import Derived.Test.YtmdjncknjbjmbaaRowS
import Derived.Test.YtmdjncknjbjmbaaRowZ
import Derived.Test.YtmdjncknjbjmbaaBlocks
import Derived.Test.YtmdjncknjbjmbaaVetA
import Derived.Test.YtmdjncknjbjmbaaVetB
import Derived.Test.YtmdjncknjbjmbaaVetC
import Derived.Test.YtmdjncknjbjmbaaVetD
import Derived.Test.YtmdjncknjbjmbaaVetE
import Derived.Test.YtmdjncknjbjmbaaVetF
import Derived.WalkKit
import Derived.IntWalk
import Derived.Lib.Hide
import Derived.Lib.SmallJoins
import Derived.WalkSpells
import Derived.WalkLawsBesides
import Derived.Deep.QuietTactic
import Derived.Deep.RegionHeld3
import Derived.Deep.LoopGhost
import Derived.BigQuiet
import Derived.BigRegion
import Derived.Below
import Derived.Lib.Strings
namespace Go.Proofs.Ytmdjncknjbjmbaa
open Go.RowKit
set_option linter.unusedSimpArgs false
set_option linter.unusedVariables false
set_option maxRecDepth 100000 in
set_option maxHeartbeats 16000000 in
theorem psame_n (s0 s1 s2 s3 s4 s5 s6 s7 s9 s10 s11 s12 t0 t1 t2 t3 t4 t5 t6 t7 t10 t11 t12 : Int) (A B : Option Addr) (n c m d : Nat) (z y : Nat → Nat → Int) (w : World) (hn : nbB (numV s0 s1 s2 s3 s4 s5 s6 s7 s10 s11 s12) (numV t0 t1 t2 t3 t4 t5 t6 t7 t10 t11 t12) 11 = false) (ha : RdZ w 3 A n z) (hb : RdZ w 3 B m y) :
    Calls Try.prog 22 #[(.agg #[.int .i64 s0, .int .i64 s1, .int .i64 s2, .int .i64 s3, .int .i64 s4, .int .i64 s5, .int .i64 s6, .int .i64 s7, .slice A n c, .int .i64 s9, .int .i64 s10, .int .i64 s11, .int .i64 s12]), (.agg #[.int .i64 t0, .int .i64 t1, .int .i64 t2, .int .i64 t3, .int .i64 t4, .int .i64 t5, .int .i64 t6, .int .i64 t7, .slice B m d, .int .i64 s9, .int .i64 t10, .int .i64 t11, .int .i64 t12])] w fun e w' => e = .returned (.bool false) ∧ Below w.heap.size w w' := by
  have HA := Lib.hid (fun W => numbers_any s0 s1 s2 s3 s4 s5 s6 s7 s9 s10 s11 s12 A n c W)
  have HB := Lib.hid (fun W => numbers_any t0 t1 t2 t3 t4 t5 t6 t7 s9 t10 t11 t12 B m d W)
  have HQ := Lib.hid (fun g1 g2 W (ha : NT W g1 (numV s0 s1 s2 s3 s4 s5 s6 s7 s10 s11 s12)) (hb : NT W g2 (numV t0 t1 t2 t3 t4 t5 t6 t7 t10 t11 t12)) => neq_any g1 g2 _ _ W ha hb)
  rw [hn] at HQ
  have T0 := Lib.hid (tb_start w #[(.int .i64 s0 : Value), .int .i64 s1, .int .i64 s2, .int .i64 s3, .int .i64 s4, .int .i64 s5, .int .i64 s6, .int .i64 s7, .slice A n c, .int .i64 s9, .int .i64 s10, .int .i64 s11, .int .i64 s12] #[(.int .i64 t0 : Value), .int .i64 t1, .int .i64 t2, .int .i64 t3, .int .i64 t4, .int .i64 t5, .int .i64 t6, .int .i64 t7, .slice B m d, .int .i64 s9, .int .i64 t10, .int .i64 t11, .int .i64 t12] 29 29)
  have B0 := Lib.hid ((((Below.refl w.heap.size w).alloc (Nat.le_refl _) (.cells #[(.int .i64 s0 : Value), .int .i64 s1, .int .i64 s2, .int .i64 s3, .int .i64 s4, .int .i64 s5, .int .i64 s6, .int .i64 s7, .slice A n c, .int .i64 s9, .int .i64 s10, .int .i64 s11, .int .i64 s12] 29)).alloc (by simp) (.cells #[(.int .i64 t0 : Value), .int .i64 t1, .int .i64 t2, .int .i64 t3, .int .i64 t4, .int .i64 t5, .int .i64 t6, .int .i64 t7, .slice B m d, .int .i64 s9, .int .i64 t10, .int .i64 t11, .int .i64 t12] 29)))
  have RA := Lib.hid ha
  have RB := Lib.hid hb
  clear hn ha hb
  go_enter Try.func22, Try.ntmps22
  go_wp2_with fail
  have T1 := T0.out
  have oa0 := T1.1 0 _ rfl
  have oa1 := T1.1 1 _ rfl
  have oa2 := T1.1 2 _ rfl
  have oa3 := T1.1 3 _ rfl
  have oa4 := T1.1 4 _ rfl
  have oa5 := T1.1 5 _ rfl
  have oa6 := T1.1 6 _ rfl
  have oa7 := T1.1 7 _ rfl
  have oa8 := T1.1 8 _ rfl
  have oa9 := T1.1 9 _ rfl
  have oa10 := T1.1 10 _ rfl
  have oa11 := T1.1 11 _ rfl
  have oa12 := T1.1 12 _ rfl
  have ob0 := T1.2 0 _ rfl
  have ob1 := T1.2 1 _ rfl
  have ob2 := T1.2 2 _ rfl
  have ob3 := T1.2 3 _ rfl
  have ob4 := T1.2 4 _ rfl
  have ob5 := T1.2 5 _ rfl
  have ob6 := T1.2 6 _ rfl
  have ob7 := T1.2 7 _ rfl
  have ob8 := T1.2 8 _ rfl
  have ob9 := T1.2 9 _ rfl
  have ob10 := T1.2 10 _ rfl
  have ob11 := T1.2 11 _ rfl
  have ob12 := T1.2 12 _ rfl
  clear T1
  first | (go_region_with
    (first
      | (go_at_call_of 60 (Value.agg #[.int .i64 s0, .int .i64 s1, .int .i64 s2, .int .i64 s3, .int .i64 s4, .int .i64 s5, .int .i64 s6, .int .i64 s7, .slice A n c, .int .i64 s9, .int .i64 s10, .int .i64 s11, .int .i64 s12]); refine (HA.out _).mono ?_; rintro e wA ⟨gA, rfl, hntA, hbA⟩; have TA := Lib.hid (TB.next (by first | exact TBw.out | exact T0.out) hbA); have TA1 := TA.out; have pa0 := TA1.1 0 _ rfl; have pa1 := TA1.1 1 _ rfl; have pa2 := TA1.1 2 _ rfl; have pa3 := TA1.1 3 _ rfl; have pa4 := TA1.1 4 _ rfl; have pa5 := TA1.1 5 _ rfl; have pa6 := TA1.1 6 _ rfl; have pa7 := TA1.1 7 _ rfl; have pa8 := TA1.1 8 _ rfl; have pa9 := TA1.1 9 _ rfl; have pa10 := TA1.1 10 _ rfl; have pa11 := TA1.1 11 _ rfl; have pa12 := TA1.1 12 _ rfl; have pb0 := TA1.2 0 _ rfl; have pb1 := TA1.2 1 _ rfl; have pb2 := TA1.2 2 _ rfl; have pb3 := TA1.2 3 _ rfl; have pb4 := TA1.2 4 _ rfl; have pb5 := TA1.2 5 _ rfl; have pb6 := TA1.2 6 _ rfl; have pb7 := TA1.2 7 _ rfl; have pb8 := TA1.2 8 _ rfl; have pb9 := TA1.2 9 _ rfl; have pb10 := TA1.2 10 _ rfl; have pb11 := TA1.2 11 _ rfl; have pb12 := TA1.2 12 _ rfl; clear TA1)
      | (go_at_call_of 60 (Value.agg #[.int .i64 t0, .int .i64 t1, .int .i64 t2, .int .i64 t3, .int .i64 t4, .int .i64 t5, .int .i64 t6, .int .i64 t7, .slice B m d, .int .i64 s9, .int .i64 t10, .int .i64 t11, .int .i64 t12]); refine (HB.out _).mono ?_; rintro e wB ⟨gB, rfl, hntB, hbB⟩; have TBw := Lib.hid (TB.next (by first | exact TA.out | exact T0.out) hbB); have TB1 := TBw.out; have qa0 := TB1.1 0 _ rfl; have qa1 := TB1.1 1 _ rfl; have qa2 := TB1.1 2 _ rfl; have qa3 := TB1.1 3 _ rfl; have qa4 := TB1.1 4 _ rfl; have qa5 := TB1.1 5 _ rfl; have qa6 := TB1.1 6 _ rfl; have qa7 := TB1.1 7 _ rfl; have qa8 := TB1.1 8 _ rfl; have qa9 := TB1.1 9 _ rfl; have qa10 := TB1.1 10 _ rfl; have qa11 := TB1.1 11 _ rfl; have qa12 := TB1.1 12 _ rfl; have qb0 := TB1.2 0 _ rfl; have qb1 := TB1.2 1 _ rfl; have qb2 := TB1.2 2 _ rfl; have qb3 := TB1.2 3 _ rfl; have qb4 := TB1.2 4 _ rfl; have qb5 := TB1.2 5 _ rfl; have qb6 := TB1.2 6 _ rfl; have qb7 := TB1.2 7 _ rfl; have qb8 := TB1.2 8 _ rfl; have qb9 := TB1.2 9 _ rfl; have qb10 := TB1.2 10 _ rfl; have qb11 := TB1.2 11 _ rfl; have qb12 := TB1.2 12 _ rfl; clear TB1)
      | (go_at_call 62; refine (HQ.out _ _ _ (by first | exact hntA | exact NTd hntA _ | exact hntA.next hbB) (by first | exact hntB | exact hntB.next hbA)).mono ?_; rintro e w' ⟨rfl, q1, rfl⟩))) | fail
  all_goals (
    go_wp2_with fail
    go_ret
    exact ⟨rfl, below_drewN (chain_below B0.out hbA hbB) _⟩)
end Go.Proofs.Ytmdjncknjbjmbaa
