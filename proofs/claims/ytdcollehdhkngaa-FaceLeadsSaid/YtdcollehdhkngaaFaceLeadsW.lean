/- The walk of FaceLeads: it answers true for every input, and leaves all old blocks as they were. No condition. -/
import Derived.Test.YtdcollehdhkngaaRows
import Derived.Test.YtdcollehdhkngaaRowKit
import Derived.Test.YtdcollehdhkngaaRowS
import Derived.Test.YtdcollehdhkngaaRowZ
import Derived.Test.YtdcollehdhkngaaRowS2
import Derived.Test.YtdcollehdhkngaaBlocks
import Derived.Test.YtdcollehdhkngaaSlicesEq
import Derived.Test.YtdcollehdhkngaaRowL
import Derived.Test.YtdcollehdhkngaaMakeI
import Derived.Test.YtdcollehdhkngaaBitsMath
import Derived.Test.YtdcollehdhkngaaBitsA2
import Derived.Test.YtdcollehdhkngaaBitsD
import Derived.Test.YtdcollehdhkngaaBitsE
import Derived.Test.YtdcollehdhkngaaBitsP
import Derived.Test.YtdcollehdhkngaaBitsS
import Derived.Test.YtdcollehdhkngaaWantA
import Derived.Test.YtdcollehdhkngaaCarA
import Derived.Test.YtdcollehdhkngaaCarB
import Derived.Test.YtdcollehdhkngaaFaceA
import Derived.Test.YtdcollehdhkngaaFaceB
import Derived.Test.YtdcollehdhkngaaFaceC
import Derived.Test.YtdcollehdhkngaaFaceD
import Derived.Test.YtdcollehdhkngaaFaceE
import Derived.WalkKit
import Derived.ProofKit
import Derived.OpenShut
import Derived.Deep.QuietTactic
import Derived.BigQuiet
import Derived.Lib.SmallJoins
import Derived.Lib.Hide
import Derived.WalkSpells
import Derived.WalkLawsBesides
import Derived.BigRegion
import Derived.Deep.LoopGhost
import Derived.Deep.RegionHeld3
import Derived.IntWalk
namespace Go.Proofs.Ytdcollehdhkngaa.faceLeads
open Go.ChangeShapes Go.WideShapes Go.ChangeAt Go.RowKit Go.Joins
set_option linter.unusedSimpArgs false
set_option linter.unusedVariables false

theorem Blk.four {w : World} {g : Nat} {t : TypeId} {a b c d : Value} (h : Blk w g t #[a, b, c, d]) : w.cell? ⟨g, 0, none⟩ = some a ∧ w.cell? ⟨g, 1, none⟩ = some b ∧ w.cell? ⟨g, 2, none⟩ = some c ∧ w.cell? ⟨g, 3, none⟩ = some d := ⟨h.cell 0, h.cell 1, h.cell 2, h.cell 3⟩
theorem hasF_or (F G : Nat → Bool) (f : Int) : hasF (fun j => F j || G j) f = (hasF F f || hasF G f) := by
  unfold hasF; cases decide (0 ≤ f) <;> cases decide (f < 128) <;> simp
theorem hasF_la (n : Nat) (cap : Int) (U D : Nat → Bool) (f : Int) : hasF (laF n cap fun j => U j || D j) f = (hasF (laF n cap U) f || hasF (laF n cap D) f) := by
  unfold laF hasF
  split <;> cases decide (0 ≤ f) <;> cases decide (f < 128) <;> simp
theorem hasF_wa (z : Nat → Nat → Int) (n : Nat) (cap : Int) (U D : Nat → Bool) (f : Int) : hasF (waF z n cap U D) f = (hasF (rdF z n) f || hasF (laF n cap U) f || hasF (laF n cap D) f) := by
  rw [show waF z n cap U D = fun j => rdF z n j || laF n cap (fun j => U j || D j) j from rfl, hasF_or, hasF_la, Bool.or_assoc]
theorem ne_no {G : Nat → Bool} (h : neF G = false) : ∀ j, j < 128 → G j = false := fun j hj => by
  cases hg : G j
  · rfl
  · rw [(neF_iff G).2 ⟨j, hj, hg⟩] at h; cases h
theorem hasF_no {G : Nat → Bool} (h : neF G = false) (f : Int) : hasF G f = false := by
  unfold hasF
  by_cases h0 : 0 ≤ f
  · by_cases h1 : f < 128
    · rw [ne_no h f.toNat (by omega), Bool.and_false]
    · rw [decide_eq_false h1, Bool.and_false, Bool.false_and]
  · rw [decide_eq_false h0, Bool.false_and, Bool.false_and]
theorem by_no {G : Nat → Bool} (h : neF G = false) (f d : Int) : neF (byF G f d) = false := by
  cases hb : neF (byF G f d)
  · rfl
  · obtain ⟨j, hj, hg⟩ := (neF_iff _).1 hb
    unfold byF at hg
    rw [ne_no h j hj] at hg
    simp at hg
/-- what a car wants lies here, or on in one of the directions -/
theorem somewhere {G : Nat → Bool} (h : neF G = true) (f : Int) (h0 : 0 ≤ f) (h1 : f < 128) : hasF G f = true ∨ neF (byF G f 1) = true ∨ neF (byF G f (-1)) = true := by
  obtain ⟨j, hj, hg⟩ := (neF_iff _).1 h
  rcases Int.lt_trichotomy (j : Int) f with c | c | c
  · exact .inr (.inr ((neF_iff _).2 ⟨j, hj, by unfold byF; rw [if_neg (by omega), if_pos (by omega), hg, decide_eq_true c]; rfl⟩))
  · refine .inl ?_
    unfold hasF
    rw [decide_eq_true h0, decide_eq_true h1, show f.toNat = j by omega, hg]; rfl
  · exact .inr (.inl ((neF_iff _).2 ⟨j, hj, by unfold byF; rw [if_pos (by omega), hg, decide_eq_true c]; rfl⟩))
section logic
variable (z : Nat → Nat → Int) (n : Nat) (cap : Int) (U D : Nat → Bool) (f d : Int)
theorem leads_none (h : neF (waF z n cap U D) = false) : ofWay (waF z n cap U D) (laF n cap U) (laF n cap D) f d = 0 ∧ stopB (rdF z n) (waF z n cap U D) (laF n cap U) (laF n cap D) f d = false := by
  have hw := hasF_no h f
  rw [hasF_wa] at hw
  simp only [Bool.or_eq_false_iff] at hw
  obtain ⟨⟨hr, hu⟩, hd⟩ := hw
  have hc : ∀ e, callF (laF n cap U) (laF n cap D) f e = false := fun e => by unfold callF; rw [hu, hd]; split <;> (try split) <;> rfl
  constructor
  · unfold ofWay bgF
    simp [hc, by_no h]
  · unfold stopB
    simp [hr, hc]
theorem leads_some (h : neF (waF z n cap U D) = true) (h0 : 0 ≤ f) (h1 : f < 128) (hd : d = 0 ∨ d = 1 ∨ d = -1) :
    stopB (rdF z n) (waF z n cap U D) (laF n cap U) (laF n cap D) f d = true ∨ (ofWay (waF z n cap U D) (laF n cap U) (laF n cap D) f d ≠ 0 ∧ neF (byF (waF z n cap U D) f (ofWay (waF z n cap U D) (laF n cap U) (laF n cap D) f d)) = true) := by
  have S := somewhere h f h0 h1
  rw [hasF_wa] at S
  have c1 : callF (laF n cap U) (laF n cap D) f 1 = hasF (laF n cap U) f := by unfold callF; rw [if_pos (by omega)]
  have c2 : callF (laF n cap U) (laF n cap D) f (-1) = hasF (laF n cap D) f := by unfold callF; rw [if_neg (by omega), if_pos (by omega)]
  have o1 : othF 1 = -1 := rfl
  have o2 : othF (-1) = 1 := rfl
  generalize waF z n cap U D = W at *
  generalize laF n cap U = LU at *
  generalize laF n cap D = LD at *
  generalize rdF z n = R at *
  unfold stopB ofWay bgF
  rcases hd with rfl | rfl | rfl
  all_goals simp only [o1, o2, c1, c2]
  all_goals (
    cases hr : hasF R f <;> cases hu : hasF LU f <;> cases hdd : hasF LD f <;> cases hy1 : neF (byF W f 1) <;> cases hy2 : neF (byF W f (-1)) <;> simp_all)
end logic
theorem in_of_wf {z : Int} (h : (Lit.int .i64 z).wf = true) : -9223372036854775808 ≤ z ∧ z ≤ 9223372036854775807 := by simpa [Lit.wf, IntKind.min, IntKind.max, IntKind.signed, IntKind.bits] using h
set_option maxRecDepth 100000 in
set_option maxHeartbeats 4000000 in
theorem walk_f (p d md l : Int) (wa : Bool) (A : Option Addr) (n c : Nat) (z : Nat → Nat → Int) (U D : Nat → Bool) (cap f : Int) (w : World) (hr : RdZ w 2 A n z) (hm : n ≤ maxLen) :
    Calls Try.prog 3 #[carV p d md l wa A n c, .agg #[.int .u64 (wordX U), .int .u64 (wordY U), .int .u64 (wordX D), .int .u64 (wordY D)], .agg #[.int .i64 cap, .int .i64 f]] w fun e w' => e = .returned (.bool true) ∧ Below w.heap.size w w' := by
  unfold maxLen at hm
  have hmI : (n : Int) ≤ 9223372036854775807 := by omega
  have G : (100 < (n : Int)) ∨ ((n : Int) ≤ 100 ∧ f < 0) ∨ ((n : Int) ≤ 100 ∧ 0 ≤ f ∧ 127 < f) ∨ ((n : Int) ≤ 100 ∧ 0 ≤ f ∧ f ≤ 127 ∧ d < -1) ∨ ((n : Int) ≤ 100 ∧ 0 ≤ f ∧ f ≤ 127 ∧ -1 ≤ d ∧ 1 < d) ∨ ((n : Int) ≤ 100 ∧ 0 ≤ f ∧ f ≤ 127 ∧ -1 ≤ d ∧ d ≤ 1) := by omega
  have early : ∀ (_ : (100 < (n : Int)) ∨ ((n : Int) ≤ 100 ∧ f < 0) ∨ ((n : Int) ≤ 100 ∧ 0 ≤ f ∧ 127 < f) ∨ ((n : Int) ≤ 100 ∧ 0 ≤ f ∧ f ≤ 127 ∧ d < -1) ∨ ((n : Int) ≤ 100 ∧ 0 ≤ f ∧ f ≤ 127 ∧ -1 ≤ d ∧ 1 < d)), Calls Try.prog 3 #[carV p d md l wa A n c, .agg #[.int .u64 (wordX U), .int .u64 (wordY U), .int .u64 (wordX D), .int .u64 (wordY D)], .agg #[.int .i64 cap, .int .i64 f]] w fun e w' => e = .returned (.bool true) ∧ Below w.heap.size w w' := by
    intro h
    clear G
    unfold carV
    rcases h with h | ⟨h, h1⟩ | ⟨h, h1, h2⟩ | ⟨h, h1, h2, h3⟩ | ⟨h, h1, h2, h3, h4⟩
    all_goals (
      go_enter Try.func3, Try.ntmps3
      go_wp2_with fail
      go_region
      go_wp2_with fail
      go_ret
      exact ⟨rfl, (((Below.refl w.heap.size w).alloc (Nat.le_refl _) _).alloc (by simp) _).alloc (by simp; omega) _ |>.drew⟩)
  rcases G with h | h | h | h | h | ⟨h1, h2, h3, h4, h5⟩
  · exact early (.inl h)
  · exact early (.inr (.inl h))
  · exact early (.inr (.inr (.inl h)))
  · exact early (.inr (.inr (.inr (.inl h))))
  · exact early (.inr (.inr (.inr (.inr h))))
  clear early
  have HR := Lib.hid hr
  have SE := fun w hr => see_any p d md l wa A n c z cap U D w hr (by omega)
  have WY := fun w => ofway_any (waF z n cap U D) (laF n cap U) (laF n cap D) f d w
  have ST := fun w hr => stop_any (rdF z n) (waF z n cap U D) (laF n cap U) (laF n cap D) f p d md l wa A n c z w hr (by omega) rfl
  have BY := fun e w => sbey_any (waF z n cap U D) (laF n cap U) (laF n cap D) f e w
  have CM := set_cmp (wordX (waF z n cap U D)) (wordY (waF z n cap U D)) 0 0
  have L0 := leads_none z n cap U D f d
  have L1 := fun h => leads_some z n cap U D f d h h2 (by omega) (by omega)
  unfold neF at L0 L1
  unfold sgtV carV setV at *
  obtain ⟨a0, ha0⟩ : ∃ x, wordX U = x := ⟨_, rfl⟩
  obtain ⟨a1, ha1⟩ : ∃ x, wordY U = x := ⟨_, rfl⟩
  obtain ⟨b0, hb0⟩ : ∃ x, wordX D = x := ⟨_, rfl⟩
  obtain ⟨b1, hb1⟩ : ∃ x, wordY D = x := ⟨_, rfl⟩
  obtain ⟨w0, hw0⟩ : ∃ x, wordX (waF z n cap U D) = x := ⟨_, rfl⟩
  obtain ⟨w1, hw1⟩ : ∃ x, wordY (waF z n cap U D) = x := ⟨_, rfl⟩
  obtain ⟨u0, hu0⟩ : ∃ x, wordX (laF n cap U) = x := ⟨_, rfl⟩
  obtain ⟨u1, hu1⟩ : ∃ x, wordY (laF n cap U) = x := ⟨_, rfl⟩
  obtain ⟨d0, hd0⟩ : ∃ x, wordX (laF n cap D) = x := ⟨_, rfl⟩
  obtain ⟨d1, hd1⟩ : ∃ x, wordY (laF n cap D) = x := ⟨_, rfl⟩
  obtain ⟨s, hs⟩ : ∃ b, stopB (rdF z n) (waF z n cap U D) (laF n cap U) (laF n cap D) f d = b := ⟨_, rfl⟩
  obtain ⟨y, hy⟩ : ∃ b, ofWay (waF z n cap U D) (laF n cap U) (laF n cap D) f d = b := ⟨_, rfl⟩
  simp only [ha0, ha1, hb0, hb1, hw0, hw1, hu0, hu1, hd0, hd1, hs, hy] at SE WY ST BY CM L0 L1 ⊢
  obtain ⟨bb, hbb⟩ : ∃ b, ((w0 : Int) == 0 && (w1 : Int) == 0) = b := ⟨_, rfl⟩
  obtain ⟨yb, hyb⟩ : ∃ b, neF (byF (waF z n cap U D) f y) = b := ⟨_, rfl⟩
  have BYy := BY y
  unfold neF at hyb
  rw [hbb] at CM L0 L1
  rw [hyb] at L1
  unfold neF at BYy
  rw [hyb] at BYy
  replace SE := Lib.hid SE
  replace WY := Lib.hid WY
  replace ST := Lib.hid ST
  replace BYy := Lib.hid BYy
  clear BY ha0 ha1 hb0 hb1 hw0 hw1 hu0 hu1 hd0 hd1 hs hy hbb hyb hr
  go_enter Try.func3, Try.ntmps3
  go_wp2_with fail
  have A0 := ((Blk.new w #[(.int .i64 p : Value), .int .i64 d, .int .i64 md, .int .i64 l, .bool wa, .slice A n c] 25).alloc (.cells #[(.int .u64 a0 : Value), .int .u64 a1, .int .u64 b0, .int .u64 b1] 29)).alloc (.cells #[(.int .i64 cap : Value), .int .i64 f] 30)
  have BE : Below w.heap.size w (((w.alloc (.cells #[(.int .i64 p : Value), .int .i64 d, .int .i64 md, .int .i64 l, .bool wa, .slice A n c] 25)).alloc (.cells #[(.int .u64 a0 : Value), .int .u64 a1, .int .u64 b0, .int .u64 b1] 29)).alloc (.cells #[(.int .i64 cap : Value), .int .i64 f] 30)) := (((Below.refl w.heap.size w).alloc (Nat.le_refl _) _).alloc (by simp) _).alloc (by simp; omega) _
  go_region
  go_wp2_with fail
  have C0 := Lib.hid A0.drew
  have E0 := Lib.hid BE.drew
  obtain ⟨V, hV⟩ : ∃ V, (((w.alloc (.cells #[(.int .i64 p : Value), .int .i64 d, .int .i64 md, .int .i64 l, .bool wa, .slice A n c] 25)).alloc (.cells #[(.int .u64 a0 : Value), .int .u64 a1, .int .u64 b0, .int .u64 b1] 29)).alloc (.cells #[(.int .i64 cap : Value), .int .i64 f] 30)).drew = V := ⟨_, rfl⟩
  rw [hV] at C0 E0 ⊢
  clear hV A0 BE
  refine (SE.out V (HR.out.kept E0.out)).mono ?_
  rintro e v1 ⟨rfl, hb⟩
  have C1 := Lib.hid (C0.out.next hb)
  have E1 := Lib.hid (E0.out.trans (hb.mono E0.out.size))
  clear hb C0 E0
  obtain ⟨k0, k1, k2, k3, k4, k5⟩ := C1.out.six
  have BI := C1.out.lt
  go_wp2_with fail
  refine (WY.out _).mono ?_
  rintro e v2 ⟨rfl, hb⟩
  have S2 := (Blk.new v1 #[.int .u64 w0, .int .u64 w1, .int .u64 u0, .int .u64 u1, .int .u64 d0, .int .u64 d1] 32).next hb
  have C2 := Lib.hid ((C1.out.alloc (.cells #[.int .u64 w0, .int .u64 w1, .int .u64 u0, .int .u64 u1, .int .u64 d0, .int .u64 d1] 32)).next hb)
  have E2 := Lib.hid ((E1.out.alloc E1.out.size (.cells #[.int .u64 w0, .int .u64 w1, .int .u64 u0, .int .u64 u1, .int .u64 d0, .int .u64 d1] 32)).trans (hb.mono (E1.out.alloc E1.out.size (.cells #[.int .u64 w0, .int .u64 w1, .int .u64 u0, .int .u64 u1, .int .u64 d0, .int .u64 d1] 32)).size))
  obtain ⟨g, hg⟩ : ∃ g, v1.heap.size = g := ⟨_, rfl⟩
  rw [hg] at S2 ⊢
  have S2 := Lib.hid S2
  clear hb hg C1 E1 k0 k1 k2 k3 k4 k5 BI
  obtain ⟨s0, s1, s2, s3, s4, s5⟩ := S2.out.six
  obtain ⟨k0, k1, k2, k3, k4, k5⟩ := C2.out.six
  cases bb
  · have L := L1 rfl
    clear L0 L1
    cases s
    · rcases L with L | ⟨hy0, rfl⟩
      · cases L
      have hyb : (y == 0) = false := by rw [beq_eq_false_iff_ne]; exact hy0
      go_wp2_with fail
      refine (ST.out _ (HR.out.kept E2.out)).mono ?_
      rintro e v3 ⟨rfl, hb⟩
      have S3 := Lib.hid (S2.out.next hb)
      have C3 := Lib.hid (C2.out.next hb)
      have E3 := Lib.hid (E2.out.trans (hb.mono E2.out.size))
      clear hb C2 S2 E2 s0 s1 s2 s3 s4 s5 k0 k1 k2 k3 k4 k5
      obtain ⟨s0, s1, s2, s3, s4, s5⟩ := S3.out.six
      obtain ⟨k0, k1, k2, k3, k4, k5⟩ := C3.out.six
      go_wp2_with fail
      refine (BYy.out _).mono ?_
      rintro e v4 ⟨rfl, hb⟩
      have S4 := Lib.hid (S3.out.next hb)
      have C4 := Lib.hid (C3.out.next hb)
      have E4 := Lib.hid (E3.out.trans (hb.mono E3.out.size))
      clear hb C3 S3 E3 s0 s1 s2 s3 s4 s5 k0 k1 k2 k3 k4 k5
      obtain ⟨s0, s1, s2, s3, s4, s5⟩ := S4.out.six
      obtain ⟨k0, k1, k2, k3, k4, k5⟩ := C4.out.six
      go_wp2_with fail
      refine (falive _).mono ?_
      rintro e v5 ⟨rfl, hb⟩
      have E5 := Lib.hid (E4.out.trans (hb.mono E4.out.size))
      clear hb
      go_wp2_with fail
      go_ret
      first
        | exact ⟨rfl, E5.out⟩
        | exact ⟨retB (by simp only [bne, hyb]; rfl), E5.out⟩
    · clear L
      go_wp2_with fail
      refine (ST.out _ (HR.out.kept E2.out)).mono ?_
      rintro e v3 ⟨rfl, hb⟩
      have S3 := Lib.hid (S2.out.next hb)
      have C3 := Lib.hid (C2.out.next hb)
      have E3 := Lib.hid (E2.out.trans (hb.mono E2.out.size))
      clear hb C2 S2 E2 s0 s1 s2 s3 s4 s5 k0 k1 k2 k3 k4 k5
      obtain ⟨s0, s1, s2, s3, s4, s5⟩ := S3.out.six
      obtain ⟨k0, k1, k2, k3, k4, k5⟩ := C3.out.six
      go_wp2_with fail
      refine (falive _).mono ?_
      rintro e v4 ⟨rfl, hb⟩
      have E4 := Lib.hid (E3.out.trans (hb.mono E3.out.size))
      clear hb
      go_wp2_with fail
      go_ret
      first
        | exact ⟨rfl, E4.out⟩
        | exact ⟨retB (by simp only [bne, hyb]; rfl), E4.out⟩
  · obtain ⟨rfl, rfl⟩ := L0 rfl
    clear L0 L1
    go_wp2_with fail
    refine (ST.out _ (HR.out.kept E2.out)).mono ?_
    rintro e v3 ⟨rfl, hb⟩
    have S3 := Lib.hid (S2.out.next hb)
    have C3 := Lib.hid (C2.out.next hb)
    have E3 := Lib.hid (E2.out.trans (hb.mono E2.out.size))
    clear hb C2 S2 E2 s0 s1 s2 s3 s4 s5 k0 k1 k2 k3 k4 k5
    obtain ⟨s0, s1, s2, s3, s4, s5⟩ := S3.out.six
    obtain ⟨k0, k1, k2, k3, k4, k5⟩ := C3.out.six
    go_wp2_with fail
    refine (falive _).mono ?_
    rintro e v4 ⟨rfl, hb⟩
    have E4 := Lib.hid (E3.out.trans (hb.mono E3.out.size))
    clear hb
    go_wp2_with fail
    go_ret
    first
      | exact ⟨rfl, E4.out⟩
      | exact ⟨retB (by simp only [bne, hyb]; rfl), E4.out⟩
theorem walk {p d md l : Int} {wa : Bool} {A : Option Addr} {n c : Nat} {z : Nat → Nat → Int} {a0 a1 b0 b1 cap f : Int} {w : World} (_ : (Lit.int .i64 p).wf = true) (_ : (Lit.int .i64 d).wf = true) (_ : (Lit.int .i64 md).wf = true) (_ : (Lit.int .i64 l).wf = true) (hl : n ≤ c) (hm : c ≤ maxLen) (hr : RdZ w 2 A n z) (_ : A = none → c = 0) (w0 : (Lit.int .u64 a0).wf = true) (w1 : (Lit.int .u64 a1).wf = true) (w2 : (Lit.int .u64 b0).wf = true) (w3 : (Lit.int .u64 b1).wf = true) (_ : (Lit.int .i64 cap).wf = true) (_ : (Lit.int .i64 f).wf = true) :
    Calls Try.prog 3 #[.agg #[.int .i64 p, .int .i64 d, .int .i64 md, .int .i64 l, .bool wa, .slice A n c], .agg #[.int .u64 a0, .int .u64 a1, .int .u64 b0, .int .u64 b1], .agg #[.int .i64 cap, .int .i64 f]] w fun e w' => e = .returned (.bool true) ∧ Below w.heap.size w w' := by
  have u : ∀ {q : Int}, (Lit.int .u64 q).wf = true → 0 ≤ q ∧ q ≤ 18446744073709551615 := fun h => by simpa [Lit.wf, IntKind.min, IntKind.max, IntKind.signed, IntKind.bits] using h
  obtain ⟨x0, rfl⟩ := Int.eq_ofNat_of_zero_le (u w0).1
  obtain ⟨x1, rfl⟩ := Int.eq_ofNat_of_zero_le (u w1).1
  obtain ⟨y0, rfl⟩ := Int.eq_ofNat_of_zero_le (u w2).1
  obtain ⟨y1, rfl⟩ := Int.eq_ofNat_of_zero_le (u w3).1
  have h0 := (u w0).2
  have h1 := (u w1).2
  have h2 := (u w2).2
  have h3 := (u w3).2
  have := walk_f p d md l wa A n c z (mem x0 x1) (mem y0 y1) cap f w hr (Nat.le_trans hl hm)
  rw [(word_mem x0 x1 (by omega) (by omega)).1, (word_mem x0 x1 (by omega) (by omega)).2, (word_mem y0 y1 (by omega) (by omega)).1, (word_mem y0 y1 (by omega) (by omega)).2] at this
  exact this

end Go.Proofs.Ytdcollehdhkngaa.faceLeads
