/- The walk of DiffLogs: it answers true for every input, and leaves all old blocks as they were. No condition. -/
import Derived.Test.YtnjdeikikdieoaaRows
import Derived.Test.YtnjdeikikdieoaaRowKit
import Derived.Test.YtnjdeikikdieoaaRowS
import Derived.Test.YtnjdeikikdieoaaRowZ
import Derived.Test.YtnjdeikikdieoaaRowV
import Derived.Test.YtnjdeikikdieoaaRowW
import Derived.Test.YtnjdeikikdieoaaBlocks
import Derived.Test.YtnjdeikikdieoaaDiffT
import Derived.Test.YtnjdeikikdieoaaDiffG
import Derived.Test.YtnjdeikikdieoaaDiffS
import Derived.Test.YtnjdeikikdieoaaDiffSw
import Derived.Test.YtnjdeikikdieoaaDiffAl
import Derived.WalkKit
import Derived.ProofKit
import Derived.OpenShut
import Derived.Deep.QuietTactic
import Derived.BigQuiet
import Derived.Lib.SmallJoins
import Derived.Lib.Hide
import Derived.WalkSpells
import Derived.WalkLawsBesides
import Derived.Deep.LoopGhost
import Derived.OwnWalk
import Derived.BigRegion
import Derived.Deep.RegionHeld3
import Derived.IntWalk
namespace Go.Proofs.Ytnjdeikikdieoaa.diffLogs
open Go.ChangeShapes Go.WideShapes Go.ChangeAt Go.RowKit Go.Joins
set_option linter.unusedSimpArgs false
set_option linter.unusedVariables false

theorem _root_.Go.Proofs.Ytnjdeikikdieoaa.Blk.drew {w : World} {g : Nat} {t : TypeId} {cs : Array Value} (h : Blk w g t cs) : Blk w.drew g t cs := h
theorem sameL_self (u : Int) (nt : Nat) (z : Nat → Nat → Int) (n : Nat) (ln : Nat → Nat) (v : Nat → Nat → Nat → Value) : sameL u u nt nt z z n n ln ln v v = true := by
  have h1 : sameZ 7 nt nt z z = true := (sameZ_true ..).2 ⟨rfl, fun _ _ _ _ => rfl⟩
  have h2 : sameW n n ln ln v v = true := (sameW_true ..).2 ⟨rfl, fun _ _ => (sameV_true ..).2 ⟨rfl, fun _ _ _ _ => rfl⟩⟩
  simp [sameL, h1, h2]
/-- two rows agree at a place -/
def AtZ (n n2 : Nat) (z z2 : Nat → Nat → Int) (k : Nat) : Prop := k < n ∧ k < n2 ∧ RowEq z z2 k
/-- where two rows part, from a place on -/
def PartFrom (n n2 : Nat) (z z2 : Nat → Nat → Int) (p a : Nat) (b : Bool) : Prop :=
  (b = false ∧ a = 0 ∧ ∀ k, p ≤ k → k < max n n2 → AtZ n n2 z z2 k) ∨ (b = true ∧ p ≤ a ∧ a < max n n2 ∧ ¬ AtZ n n2 z z2 a ∧ ∀ k, p ≤ k → k < a → AtZ n n2 z z2 k)
theorem pf_new {n n2 : Nat} {z z2 : Nat → Nat → Int} {s a : Nat} {b : Bool} (h : PartFrom n n2 z z2 (s + 1) a b) (hs : s < max n n2) (hn : ¬ AtZ n n2 z z2 s) : PartFrom n n2 z z2 s s true :=
  Or.inr ⟨rfl, Nat.le_refl _, hs, hn, fun k h1 h2 => absurd h1 (by omega)⟩
theorem pf_old {n n2 : Nat} {z z2 : Nat → Nat → Int} {s a : Nat} {b : Bool} (h : PartFrom n n2 z z2 (s + 1) a b) (hn : AtZ n n2 z z2 s) : PartFrom n n2 z z2 s a b := by
  rcases h with ⟨h1, h2, h3⟩ | ⟨h1, h2, h3, h4, h5⟩
  · refine Or.inl ⟨h1, h2, fun k k1 k2 => ?_⟩
    by_cases e : k = s
    · rw [e]; exact hn
    · exact h3 k (by omega) k2
  · refine Or.inr ⟨h1, by omega, h3, h4, fun k k1 k2 => ?_⟩
    by_cases e : k = s
    · rw [e]; exact hn
    · exact h5 k (by omega) k2
theorem pf_one {n n2 : Nat} {z z2 : Nat → Nat → Int} {a i : Nat} {b c : Bool} (h : PartFrom n n2 z z2 0 a b) (g : PartZ n n2 z z2 i c) : i = a ∧ c = b := by
  rcases h with ⟨h1, h2, h3⟩ | ⟨h1, h2, h3, h4, h5⟩
  · rcases g with ⟨g1, g2, g3, g4⟩ | ⟨g1, g2, g3⟩
    · exact ⟨by omega, by rw [g1, h1]⟩
    · exfalso
      rcases g3 with ⟨k1, k2, k3⟩ | ⟨k1, k2⟩ | ⟨k1, k2⟩
      · exact k3 (h3 i (by omega) (by omega)).2.2
      · have := (h3 n (by omega) (by omega)).1; omega
      · have := (h3 n2 (by omega) (by omega)).2.1; omega
  · rcases g with ⟨g1, g2, g3, g4⟩ | ⟨g1, g2, g3⟩
    · exfalso; exact h4 ⟨by omega, by omega, g4 a (by omega)⟩
    · refine ⟨?_, by rw [g1, h1]⟩
      rcases Nat.lt_trichotomy i a with q | q | q
      · exfalso
        have h6 := h5 i (by omega) q
        rcases g3 with ⟨k1, k2, k3⟩ | ⟨k1, k2⟩ | ⟨k1, k2⟩
        · exact k3 h6.2.2
        · have := h6.1; omega
        · have := h6.2.1; omega
      · exact q
      · exfalso
        exact h4 ⟨by rcases g3 with ⟨k1, k2, k3⟩ | ⟨k1, k2⟩ | ⟨k1, k2⟩ <;> omega, by rcases g3 with ⟨k1, k2, k3⟩ | ⟨k1, k2⟩ | ⟨k1, k2⟩ <;> omega, g2 a q⟩
set_option maxRecDepth 100000 in
set_option maxHeartbeats 40000000 in
theorem walk {T T2 A A2 : Option Addr} {ct ct2 d d2 nt nt2 n n2 : Nat} {u u2 : Int} {z z2 : Nat → Nat → Int} {P P2 : Nat → Option Addr} {ln ln2 cp cp2 : Nat → Nat} {v v2 : Nat → Nat → Nat → Value} {w : World}
    (l1 : nt ≤ ct) (m1 : ct ≤ maxLen) (ha : RdZ w 7 T nt z) (e1 : T = none → ct = 0) (l2 : n ≤ d) (m2 : d ≤ maxLen) (hb : RdW w 4 shLeg A n P ln cp v) (e2 : A = none → d = 0) (wu : (Lit.int .i64 u).wf = true)
    (l3 : nt2 ≤ ct2) (m3 : ct2 ≤ maxLen) (ha2 : RdZ w 7 T2 nt2 z2) (e3 : T2 = none → ct2 = 0) (l4 : n2 ≤ d2) (m4 : d2 ≤ maxLen) (hb2 : RdW w 4 shLeg A2 n2 P2 ln2 cp2 v2) (e4 : A2 = none → d2 = 0) (wu2 : (Lit.int .i64 u2).wf = true) :
    Calls Try.prog 3 #[.agg #[.slice T nt ct, .slice A n d, .int .i64 u], .agg #[.slice T2 nt2 ct2, .slice A2 n2 d2, .int .i64 u2]] w fun e w' => e = .returned (.bool true) ∧ Below w.heap.size w w' := by
  have hM : maxLen ≤ 9223372036854775807 := by decide
  obtain ⟨p1, p2, p3, p4⟩ : nt ≤ 9223372036854775807 ∧ nt2 ≤ 9223372036854775807 ∧ n ≤ 9223372036854775807 ∧ n2 ≤ 9223372036854775807 := by omega
  clear l1 m1 e1 l2 m2 e2 wu l3 m3 e3 l4 m4 e4 wu2 hM
  have BE : Below w.heap.size w ((w.alloc (.cells #[.slice T nt ct, .slice A n d, .int .i64 u] 25)).alloc (.cells #[.slice T2 nt2 ct2, .slice A2 n2 d2, .int .i64 u2] 25)) := ((Below.refl w.heap.size w).alloc (Nat.le_refl _) _).alloc (by simp) _
  have BL := Blk.alloc (Blk.new w #[.slice T nt ct, .slice A n d, .int .i64 u] 25) (.cells #[.slice T2 nt2 ct2, .slice A2 n2 d2, .int .i64 u2] 25)
  have BM := Blk.new (w.alloc (.cells #[.slice T nt ct, .slice A n d, .int .i64 u] 25)) #[.slice T2 nt2 ct2, .slice A2 n2 d2, .int .i64 u2] 25
  rw [World.size_alloc] at BM
  have OA := Lib.hid ha; have OA2 := Lib.hid ha2; have OB := Lib.hid hb; have OB2 := Lib.hid hb2
  clear ha ha2 hb hb2
  go_enter Try.func3, Try.ntmps3
  go_wp2_with fail
  obtain ⟨V0, hV0⟩ : ∃ V, ((w.alloc (.cells #[.slice T nt ct, .slice A n d, .int .i64 u] 25)).alloc (.cells #[.slice T2 nt2 ct2, .slice A2 n2 d2, .int .i64 u2] 25)) = V := ⟨_, rfl⟩
  rw [hV0] at BL BM BE ⊢
  clear hV0
  obtain ⟨g, hg⟩ : ∃ g, w.heap.size = g := ⟨_, rfl⟩
  have HG := Lib.hid hg
  rw [hg] at BL BM ⊢
  clear hg
  have HE := Lib.hid BE; have LA := Lib.hid BL; have LB := Lib.hid BM
  clear BL BM BE
  obtain ⟨r1, hr1⟩ : ∃ r, greatW nt n ln = r := ⟨_, rfl⟩
  obtain ⟨r2, hr2⟩ : ∃ r, greatW nt2 n2 ln2 = r := ⟨_, rfl⟩
  have K1 := great_any T A ct d nt n u P ln cp v V0 (RdW.kept OB.out HE.out) p3 p1
  rw [hr1] at K1
  refine K1.mono fun e W1 ⟨he, hb1⟩ => ?_
  subst he
  have E1 := Lib.hid (HE.out.trans (hb1.mono HE.out.size))
  have LA1 := Lib.hid (Blk.next (w := V0) LA.out hb1)
  have LB1 := Lib.hid (Blk.next (w := V0) LB.out hb1)
  clear K1 hb1 LA LB HE
  have q0 : W1.cell? ⟨g + 1, 0, none⟩ = some (.slice T2 nt2 ct2) := LB1.out.cell 0
  have q1 : W1.cell? ⟨g + 1, 1, none⟩ = some (.slice A2 n2 d2) := LB1.out.cell 1
  have q2 : W1.cell? ⟨g + 1, 2, none⟩ = some (.int .i64 u2) := LB1.out.cell 2
  have HR1 := Lib.hid hr1; have HR2 := Lib.hid hr2
  clear hr1 hr2
  cases r1
  case true =>
    go_wp2_with fail
    go_ret
    exact ⟨rfl, E1.out⟩
  have K2 := great_any T2 A2 ct2 d2 nt2 n2 u2 P2 ln2 cp2 v2 W1 (RdW.kept OB2.out E1.out) p4 p2
  rw [HR2.out] at K2
  go_wp2_with fail
  refine K2.mono fun e W2 ⟨he, hb2⟩ => ?_
  subst he
  have E2 := Lib.hid (E1.out.trans (hb2.mono E1.out.size))
  have LA2 := Lib.hid (Blk.next (w := W1) LA1.out hb2)
  have LB2 := Lib.hid (Blk.next (w := W1) LB1.out hb2)
  clear K2 hb2 LA1 LB1 E1 q0 q1 q2
  cases r2
  case true =>
    go_wp2_with fail
    go_ret
    exact ⟨rfl, E2.out⟩
  obtain ⟨s1, s2, s3⟩ := (greatW_false ..).1 HR1.out
  obtain ⟨t1, t2, t3⟩ := (greatW_false ..).1 HR2.out
  have S3 := Lib.hid s3; have T3 := Lib.hid t3
  clear s3 t3 HR1 HR2 p1 p2 p3 p4
  obtain ⟨V, hV⟩ : ∃ V, W2 = V := ⟨_, rfl⟩
  rw [hV] at E2 LA2 LB2 ⊢
  clear hV
  have HA := Lib.hid (RdZ.kept OA.out E2.out)
  have HA2 := Lib.hid (RdZ.kept OA2.out E2.out)
  have HB := Lib.hid (RdW.kept OB.out E2.out)
  have HB2 := Lib.hid (RdW.kept OB2.out E2.out)
  have k0 : V.cell? ⟨g, 0, none⟩ = some (.slice T nt ct) := LA2.out.cell 0
  have k1 : V.cell? ⟨g, 1, none⟩ = some (.slice A n d) := LA2.out.cell 1
  have k2 : V.cell? ⟨g, 2, none⟩ = some (.int .i64 u) := LA2.out.cell 2
  have k3 : V.cell? ⟨g + 1, 0, none⟩ = some (.slice T2 nt2 ct2) := LB2.out.cell 0
  have k4 : V.cell? ⟨g + 1, 1, none⟩ = some (.slice A2 n2 d2) := LB2.out.cell 1
  have k5 : V.cell? ⟨g + 1, 2, none⟩ = some (.int .i64 u2) := LB2.out.cell 2
  by_cases hx : nt < nt2
  · skip
    go_wp2_with fail
    go_loopw [5, 6, 7] (fun at' ap i wr => ∃ (p a : Nat) (bb : Bool), p ≤ nt2 ∧ Hid (PartFrom nt nt2 z z2 p a bb) ∧ at' = .int .i64 a ∧ ap = .bool bb ∧ i = .int .i64 ((p : Int) - 1) ∧ ∃ q, wr = V.drewN q) (fun at' ap i _ => (intOf i + 1).toNat)
    case atStart => exact ⟨nt2, 0, false, by omega, Lib.hid (Or.inl ⟨rfl, rfl, fun k k1 k2 => absurd k2 (by omega)⟩), rfl, rfl, by first | rfl | go_num, 0, rfl⟩
    case round =>
      obtain ⟨p, a, bb, hp, hall, rfl, rfl, rfl, q, rfl⟩ := hrel
      by_cases h : 0 < p
      · obtain ⟨s, rfl⟩ : ∃ s, p = s + 1 := ⟨p - 1, by omega⟩
        have hi : ((s + 1 : Nat) : Int) - 1 = (s : Int) := by omega
        rw [hi]
        clear hi
        by_cases q1 : nt ≤ s
        · skip
          have HP : Hid (PartFrom nt nt2 z z2 s s true) := Lib.hid (pf_new hall.out (by omega) (by intro h; have := h.1; have := h.2.1; omega))
          clear hall
          have d1 : decide ((nt : Int) ≤ (s : Int)) = true := by simp; omega
          go_wp2_with fail
          have sK : ∀ X : World, (∀ a, X.cell? a = V.cell? a) → (fun X : World => X.cell? ⟨g, 0, none⟩ = some (.slice T nt ct)) X := fun X h => (h _).trans k0
          clear k0
          refine wp_region_held_drew (S := (fun X : World => X.cell? ⟨g, 0, none⟩ = some (.slice T nt ct))) (by kernel_rfl) (sK _ (fun _ => rfl)) (fun hHeld => ?_)
          clear hHeld
          refine wpAnyH_take (i := 0) (v := ?_) rfl (by kernel_rfl) (by kernel_rfl) (by kernel_rfl) (fun _ _ _ h => h) (Or.inl ⟨by rfl, ?_⟩) (sK _ (fun _ => rfl)) ?_
          rotate_left
          · (intro wS hSw; (try dsimp only at hSw); go_simp; try with_reducible rfl)
          simp only [Act.put, List.getElem_toArray, List.getElem_cons_zero, List.getElem_cons_succ, List.setIfInBounds_toArray, List.set_cons_zero, List.set_cons_succ]
          refine wpAnyH_take (i := 1) (v := ?_) rfl (by kernel_rfl) (by kernel_rfl) (by kernel_rfl) (fun _ _ _ h => h) (Or.inl ⟨by rfl, ?_⟩) (sK _ (fun _ => rfl)) ?_
          rotate_left
          · (intro wS hSw; (try dsimp only at hSw); go_simp; try with_reducible rfl)
          simp only [Act.put, List.getElem_toArray, List.getElem_cons_zero, List.getElem_cons_succ, List.setIfInBounds_toArray, List.set_cons_zero, List.set_cons_succ]
          refine wpAnyH_take (i := 2) (v := ?_) rfl (by kernel_rfl) (by kernel_rfl) (by kernel_rfl) (fun _ _ _ h => h) (Or.inl ⟨by rfl, ?_⟩) (sK _ (fun _ => rfl)) ?_
          rotate_left
          · (intro wS hSw; (try dsimp only at hSw); go_simp; try with_reducible rfl)
          simp only [Act.put, List.getElem_toArray, List.getElem_cons_zero, List.getElem_cons_succ, List.setIfInBounds_toArray, List.set_cons_zero, List.set_cons_succ]
          refine wpAnyH_take (i := 3) (v := ?_) rfl (by kernel_rfl) (by kernel_rfl) (by kernel_rfl) (fun _ _ _ h => h) (Or.inl ⟨by rfl, ?_⟩) (sK _ (fun _ => rfl)) ?_
          rotate_left
          · (intro wS hSw; (try dsimp only at hSw); go_simp; try with_reducible rfl)
          simp only [Act.put, List.getElem_toArray, List.getElem_cons_zero, List.getElem_cons_succ, List.setIfInBounds_toArray, List.set_cons_zero, List.set_cons_succ]
          refine wpAnyH_take (i := 4) (v := ?_) rfl (by kernel_rfl) (by kernel_rfl) (by kernel_rfl) (fun _ _ _ h => h) (Or.inl ⟨by rfl, ?_⟩) (sK _ (fun _ => rfl)) ?_
          rotate_left
          · (intro wS hSw; (try dsimp only at hSw); go_simp; try with_reducible rfl)
          simp only [Act.put, List.getElem_toArray, List.getElem_cons_zero, List.getElem_cons_succ, List.setIfInBounds_toArray, List.set_cons_zero, List.set_cons_succ]
          refine wpAnyH_take (i := 5) (v := ?_) rfl (by kernel_rfl) (by kernel_rfl) (by kernel_rfl) (fun _ _ _ h => h) (Or.inl ⟨by rfl, ?_⟩) (sK _ (fun _ => rfl)) ?_
          rotate_left
          · (intro wS hSw; (try dsimp only at hSw); go_simp; try with_reducible rfl)
          simp only [Act.put, List.getElem_toArray, List.getElem_cons_zero, List.getElem_cons_succ, List.setIfInBounds_toArray, List.set_cons_zero, List.set_cons_succ]
          refine wpAnyH_take (i := 6) (v := undef) rfl (by kernel_rfl) (by kernel_rfl) (by kernel_rfl) (fun _ _ _ h => h) (Or.inr ⟨by kernel_rfl, rfl⟩) (sK _ (fun _ => rfl)) ?_
          simp only [Act.put, List.getElem_toArray, List.getElem_cons_zero, List.getElem_cons_succ, List.setIfInBounds_toArray, List.set_cons_zero, List.set_cons_succ]
          refine wpAnyH_take (i := 7) (v := undef) rfl (by kernel_rfl) (by kernel_rfl) (by kernel_rfl) (fun _ _ _ h => h) (Or.inr ⟨by kernel_rfl, rfl⟩) (sK _ (fun _ => rfl)) ?_
          simp only [Act.put, List.getElem_toArray, List.getElem_cons_zero, List.getElem_cons_succ, List.setIfInBounds_toArray, List.set_cons_zero, List.set_cons_succ]
          refine wpAnyH_take (i := 8) (v := undef) rfl (by kernel_rfl) (by kernel_rfl) (by kernel_rfl) (fun _ _ _ h => h) (Or.inr ⟨by kernel_rfl, rfl⟩) (sK _ (fun _ => rfl)) ?_
          simp only [Act.put, List.getElem_toArray, List.getElem_cons_zero, List.getElem_cons_succ, List.setIfInBounds_toArray, List.set_cons_zero, List.set_cons_succ]
          refine wpAnyH_take (i := 9) (v := undef) rfl (by kernel_rfl) (by kernel_rfl) (by kernel_rfl) (fun _ _ _ h => h) (Or.inr ⟨by kernel_rfl, rfl⟩) (sK _ (fun _ => rfl)) ?_
          simp only [Act.put, List.getElem_toArray, List.getElem_cons_zero, List.getElem_cons_succ, List.setIfInBounds_toArray, List.set_cons_zero, List.set_cons_succ]
          refine wpAnyH_take (i := 10) (v := undef) rfl (by kernel_rfl) (by kernel_rfl) (by kernel_rfl) (fun _ _ _ h => h) (Or.inr ⟨by kernel_rfl, rfl⟩) (sK _ (fun _ => rfl)) ?_
          simp only [Act.put, List.getElem_toArray, List.getElem_cons_zero, List.getElem_cons_succ, List.setIfInBounds_toArray, List.set_cons_zero, List.set_cons_succ]
          refine wpAnyH_take (i := 11) (v := ?_) rfl (by kernel_rfl) (by kernel_rfl) (by kernel_rfl) (fun _ _ _ h => h) (Or.inl ⟨by rfl, ?_⟩) (sK _ (fun _ => rfl)) ?_
          rotate_left
          · (intro wS hSw; (try dsimp only at hSw); go_simp; try with_reducible rfl)
          simp only [Act.put, List.getElem_toArray, List.getElem_cons_zero, List.getElem_cons_succ, List.setIfInBounds_toArray, List.set_cons_zero, List.set_cons_succ]
          refine wpAnyH_take (i := 12) (v := ?_) rfl (by kernel_rfl) (by kernel_rfl) (by kernel_rfl) (fun _ _ _ h => h) (Or.inl ⟨by rfl, ?_⟩) (sK _ (fun _ => rfl)) ?_
          rotate_left
          · (intro wS hSw; (try dsimp only at hSw); go_simp; try with_reducible rfl)
          simp only [Act.put, List.getElem_toArray, List.getElem_cons_zero, List.getElem_cons_succ, List.setIfInBounds_toArray, List.set_cons_zero, List.set_cons_succ]
          refine wpAnyH_take (i := 13) (v := undef) rfl (by kernel_rfl) (by kernel_rfl) (by kernel_rfl) (fun _ _ _ h => h) (Or.inr ⟨by kernel_rfl, rfl⟩) (sK _ (fun _ => rfl)) ?_
          simp only [Act.put, List.getElem_toArray, List.getElem_cons_zero, List.getElem_cons_succ, List.setIfInBounds_toArray, List.set_cons_zero, List.set_cons_succ]
          refine wpAnyH_take (i := 14) (v := undef) rfl (by kernel_rfl) (by kernel_rfl) (by kernel_rfl) (fun _ _ _ h => h) (Or.inr ⟨by kernel_rfl, rfl⟩) (sK _ (fun _ => rfl)) ?_
          simp only [Act.put, List.getElem_toArray, List.getElem_cons_zero, List.getElem_cons_succ, List.setIfInBounds_toArray, List.set_cons_zero, List.set_cons_succ]
          refine wpAnyH_take (i := 15) (v := undef) rfl (by kernel_rfl) (by kernel_rfl) (by kernel_rfl) (fun _ _ _ h => h) (Or.inr ⟨by kernel_rfl, rfl⟩) (sK _ (fun _ => rfl)) ?_
          simp only [Act.put, List.getElem_toArray, List.getElem_cons_zero, List.getElem_cons_succ, List.setIfInBounds_toArray, List.set_cons_zero, List.set_cons_succ]
          refine wpAnyH_take (i := 16) (v := undef) rfl (by kernel_rfl) (by kernel_rfl) (by kernel_rfl) (fun _ _ _ h => h) (Or.inr ⟨by kernel_rfl, rfl⟩) (sK _ (fun _ => rfl)) ?_
          simp only [Act.put, List.getElem_toArray, List.getElem_cons_zero, List.getElem_cons_succ, List.setIfInBounds_toArray, List.set_cons_zero, List.set_cons_succ]
          refine wpAnyH_take (i := 17) (v := undef) rfl (by kernel_rfl) (by kernel_rfl) (by kernel_rfl) (fun _ _ _ h => h) (Or.inr ⟨by kernel_rfl, rfl⟩) (sK _ (fun _ => rfl)) ?_
          simp only [Act.put, List.getElem_toArray, List.getElem_cons_zero, List.getElem_cons_succ, List.setIfInBounds_toArray, List.set_cons_zero, List.set_cons_succ]
          refine wpAnyH_take (i := 18) (v := undef) rfl (by kernel_rfl) (by kernel_rfl) (by kernel_rfl) (fun _ _ _ h => h) (Or.inr ⟨by kernel_rfl, rfl⟩) (sK _ (fun _ => rfl)) ?_
          simp only [Act.put, List.getElem_toArray, List.getElem_cons_zero, List.getElem_cons_succ, List.setIfInBounds_toArray, List.set_cons_zero, List.set_cons_succ]
          refine wpAnyH_take (i := 19) (v := undef) rfl (by kernel_rfl) (by kernel_rfl) (by kernel_rfl) (fun _ _ _ h => h) (Or.inr ⟨by kernel_rfl, rfl⟩) (sK _ (fun _ => rfl)) ?_
          simp only [Act.put, List.getElem_toArray, List.getElem_cons_zero, List.getElem_cons_succ, List.setIfInBounds_toArray, List.set_cons_zero, List.set_cons_succ]
          refine wpAnyH_take (i := 20) (v := undef) rfl (by kernel_rfl) (by kernel_rfl) (by kernel_rfl) (fun _ _ _ h => h) (Or.inr ⟨by kernel_rfl, rfl⟩) (sK _ (fun _ => rfl)) ?_
          simp only [Act.put, List.getElem_toArray, List.getElem_cons_zero, List.getElem_cons_succ, List.setIfInBounds_toArray, List.set_cons_zero, List.set_cons_succ]
          refine wpAnyH_take (i := 21) (v := undef) rfl (by kernel_rfl) (by kernel_rfl) (by kernel_rfl) (fun _ _ _ h => h) (Or.inr ⟨by kernel_rfl, rfl⟩) (sK _ (fun _ => rfl)) ?_
          simp only [Act.put, List.getElem_toArray, List.getElem_cons_zero, List.getElem_cons_succ, List.setIfInBounds_toArray, List.set_cons_zero, List.set_cons_succ]
          refine wpAnyH_take (i := 22) (v := undef) rfl (by kernel_rfl) (by kernel_rfl) (by kernel_rfl) (fun _ _ _ h => h) (Or.inr ⟨by kernel_rfl, rfl⟩) (sK _ (fun _ => rfl)) ?_
          simp only [Act.put, List.getElem_toArray, List.getElem_cons_zero, List.getElem_cons_succ, List.setIfInBounds_toArray, List.set_cons_zero, List.set_cons_succ]
          refine wpAnyH_take (i := 23) (v := undef) rfl (by kernel_rfl) (by kernel_rfl) (by kernel_rfl) (fun _ _ _ h => h) (Or.inr ⟨by kernel_rfl, rfl⟩) (sK _ (fun _ => rfl)) ?_
          simp only [Act.put, List.getElem_toArray, List.getElem_cons_zero, List.getElem_cons_succ, List.setIfInBounds_toArray, List.set_cons_zero, List.set_cons_succ]
          refine wpAnyH_take (i := 24) (v := ?_) rfl (by kernel_rfl) (by kernel_rfl) (by kernel_rfl) (fun _ _ _ h => h) (Or.inl ⟨by rfl, ?_⟩) (sK _ (fun _ => rfl)) ?_
          rotate_left
          · (intro wS hSw; (try dsimp only at hSw); go_simp; try with_reducible rfl)
          simp only [Act.put, List.getElem_toArray, List.getElem_cons_zero, List.getElem_cons_succ, List.setIfInBounds_toArray, List.set_cons_zero, List.set_cons_succ]
          refine wpAnyH_done (by kernel_rfl) ?_ _
          go_wp2_with fail
          go_roundw
          case rel => exact ⟨s, s, true, by omega, HP, rfl, rfl, by go_num, _, rfl⟩
          case measure => simp [intOf]
        by_cases q2 : nt2 ≤ s
        · skip
          have HP : Hid (PartFrom nt nt2 z z2 s s true) := Lib.hid (pf_new hall.out (by omega) (by intro h; have := h.1; have := h.2.1; omega))
          clear hall
          have d1 : decide ((nt : Int) ≤ (s : Int)) = false := by simp; omega
          have d2 : decide ((nt2 : Int) ≤ (s : Int)) = true := by simp; omega
          go_wp2_with fail
          have sK : ∀ X : World, (∀ a, X.cell? a = V.cell? a) → (fun X : World => X.cell? ⟨g, 0, none⟩ = some (.slice T nt ct) ∧ X.cell? ⟨g + 1, 0, none⟩ = some (.slice T2 nt2 ct2)) X := fun X h => ⟨(h _).trans k0, (h _).trans k3⟩
          clear k0 k3
          refine wp_region_held_drew (S := (fun X : World => X.cell? ⟨g, 0, none⟩ = some (.slice T nt ct) ∧ X.cell? ⟨g + 1, 0, none⟩ = some (.slice T2 nt2 ct2))) (by kernel_rfl) (sK _ (fun _ => rfl)) (fun hHeld => ?_)
          clear hHeld
          refine wpAnyH_take (i := 0) (v := ?_) rfl (by kernel_rfl) (by kernel_rfl) (by kernel_rfl) (fun _ _ _ h => h) (Or.inl ⟨by rfl, ?_⟩) (sK _ (fun _ => rfl)) ?_
          rotate_left
          · (intro wS hSw; (try dsimp only at hSw); go_simp; try with_reducible rfl)
          simp only [Act.put, List.getElem_toArray, List.getElem_cons_zero, List.getElem_cons_succ, List.setIfInBounds_toArray, List.set_cons_zero, List.set_cons_succ]
          refine wpAnyH_take (i := 1) (v := ?_) rfl (by kernel_rfl) (by kernel_rfl) (by kernel_rfl) (fun _ _ _ h => h) (Or.inl ⟨by rfl, ?_⟩) (sK _ (fun _ => rfl)) ?_
          rotate_left
          · (intro wS hSw; (try dsimp only at hSw); go_simp; try with_reducible rfl)
          simp only [Act.put, List.getElem_toArray, List.getElem_cons_zero, List.getElem_cons_succ, List.setIfInBounds_toArray, List.set_cons_zero, List.set_cons_succ]
          refine wpAnyH_take (i := 2) (v := ?_) rfl (by kernel_rfl) (by kernel_rfl) (by kernel_rfl) (fun _ _ _ h => h) (Or.inl ⟨by rfl, ?_⟩) (sK _ (fun _ => rfl)) ?_
          rotate_left
          · (intro wS hSw; (try dsimp only at hSw); go_simp; try with_reducible rfl)
          simp only [Act.put, List.getElem_toArray, List.getElem_cons_zero, List.getElem_cons_succ, List.setIfInBounds_toArray, List.set_cons_zero, List.set_cons_succ]
          refine wpAnyH_take (i := 3) (v := ?_) rfl (by kernel_rfl) (by kernel_rfl) (by kernel_rfl) (fun _ _ _ h => h) (Or.inl ⟨by rfl, ?_⟩) (sK _ (fun _ => rfl)) ?_
          rotate_left
          · (intro wS hSw; (try dsimp only at hSw); go_simp; try with_reducible rfl)
          simp only [Act.put, List.getElem_toArray, List.getElem_cons_zero, List.getElem_cons_succ, List.setIfInBounds_toArray, List.set_cons_zero, List.set_cons_succ]
          refine wpAnyH_take (i := 4) (v := ?_) rfl (by kernel_rfl) (by kernel_rfl) (by kernel_rfl) (fun _ _ _ h => h) (Or.inl ⟨by rfl, ?_⟩) (sK _ (fun _ => rfl)) ?_
          rotate_left
          · (intro wS hSw; (try dsimp only at hSw); go_simp; try with_reducible rfl)
          simp only [Act.put, List.getElem_toArray, List.getElem_cons_zero, List.getElem_cons_succ, List.setIfInBounds_toArray, List.set_cons_zero, List.set_cons_succ]
          refine wpAnyH_take (i := 5) (v := ?_) rfl (by kernel_rfl) (by kernel_rfl) (by kernel_rfl) (fun _ _ _ h => h) (Or.inl ⟨by rfl, ?_⟩) (sK _ (fun _ => rfl)) ?_
          rotate_left
          · (intro wS hSw; (try dsimp only at hSw); go_simp; try with_reducible rfl)
          simp only [Act.put, List.getElem_toArray, List.getElem_cons_zero, List.getElem_cons_succ, List.setIfInBounds_toArray, List.set_cons_zero, List.set_cons_succ]
          refine wpAnyH_take (i := 6) (v := ?_) rfl (by kernel_rfl) (by kernel_rfl) (by kernel_rfl) (fun _ _ _ h => h) (Or.inl ⟨by rfl, ?_⟩) (sK _ (fun _ => rfl)) ?_
          rotate_left
          · (intro wS hSw; (try dsimp only at hSw); go_simp; try with_reducible rfl)
          simp only [Act.put, List.getElem_toArray, List.getElem_cons_zero, List.getElem_cons_succ, List.setIfInBounds_toArray, List.set_cons_zero, List.set_cons_succ]
          refine wpAnyH_take (i := 7) (v := ?_) rfl (by kernel_rfl) (by kernel_rfl) (by kernel_rfl) (fun _ _ _ h => h) (Or.inl ⟨by rfl, ?_⟩) (sK _ (fun _ => rfl)) ?_
          rotate_left
          · (intro wS hSw; (try dsimp only at hSw); go_simp; try with_reducible rfl)
          simp only [Act.put, List.getElem_toArray, List.getElem_cons_zero, List.getElem_cons_succ, List.setIfInBounds_toArray, List.set_cons_zero, List.set_cons_succ]
          refine wpAnyH_take (i := 8) (v := ?_) rfl (by kernel_rfl) (by kernel_rfl) (by kernel_rfl) (fun _ _ _ h => h) (Or.inl ⟨by rfl, ?_⟩) (sK _ (fun _ => rfl)) ?_
          rotate_left
          · (intro wS hSw; (try dsimp only at hSw); go_simp; try with_reducible rfl)
          simp only [Act.put, List.getElem_toArray, List.getElem_cons_zero, List.getElem_cons_succ, List.setIfInBounds_toArray, List.set_cons_zero, List.set_cons_succ]
          refine wpAnyH_take (i := 9) (v := ?_) rfl (by kernel_rfl) (by kernel_rfl) (by kernel_rfl) (fun _ _ _ h => h) (Or.inl ⟨by rfl, ?_⟩) (sK _ (fun _ => rfl)) ?_
          rotate_left
          · (intro wS hSw; (try dsimp only at hSw); go_simp; try with_reducible rfl)
          simp only [Act.put, List.getElem_toArray, List.getElem_cons_zero, List.getElem_cons_succ, List.setIfInBounds_toArray, List.set_cons_zero, List.set_cons_succ]
          refine wpAnyH_take (i := 10) (v := ?_) rfl (by kernel_rfl) (by kernel_rfl) (by kernel_rfl) (fun _ _ _ h => h) (Or.inl ⟨by rfl, ?_⟩) (sK _ (fun _ => rfl)) ?_
          rotate_left
          · (intro wS hSw; (try dsimp only at hSw); go_simp; try with_reducible rfl)
          simp only [Act.put, List.getElem_toArray, List.getElem_cons_zero, List.getElem_cons_succ, List.setIfInBounds_toArray, List.set_cons_zero, List.set_cons_succ]
          refine wpAnyH_take (i := 11) (v := ?_) rfl (by kernel_rfl) (by kernel_rfl) (by kernel_rfl) (fun _ _ _ h => h) (Or.inl ⟨by rfl, ?_⟩) (sK _ (fun _ => rfl)) ?_
          rotate_left
          · (intro wS hSw; (try dsimp only at hSw); go_simp; try with_reducible rfl)
          simp only [Act.put, List.getElem_toArray, List.getElem_cons_zero, List.getElem_cons_succ, List.setIfInBounds_toArray, List.set_cons_zero, List.set_cons_succ]
          refine wpAnyH_take (i := 12) (v := ?_) rfl (by kernel_rfl) (by kernel_rfl) (by kernel_rfl) (fun _ _ _ h => h) (Or.inl ⟨by rfl, ?_⟩) (sK _ (fun _ => rfl)) ?_
          rotate_left
          · (intro wS hSw; (try dsimp only at hSw); go_simp; try with_reducible rfl)
          simp only [Act.put, List.getElem_toArray, List.getElem_cons_zero, List.getElem_cons_succ, List.setIfInBounds_toArray, List.set_cons_zero, List.set_cons_succ]
          refine wpAnyH_take (i := 13) (v := undef) rfl (by kernel_rfl) (by kernel_rfl) (by kernel_rfl) (fun _ _ _ h => h) (Or.inr ⟨by kernel_rfl, rfl⟩) (sK _ (fun _ => rfl)) ?_
          simp only [Act.put, List.getElem_toArray, List.getElem_cons_zero, List.getElem_cons_succ, List.setIfInBounds_toArray, List.set_cons_zero, List.set_cons_succ]
          refine wpAnyH_take (i := 14) (v := undef) rfl (by kernel_rfl) (by kernel_rfl) (by kernel_rfl) (fun _ _ _ h => h) (Or.inr ⟨by kernel_rfl, rfl⟩) (sK _ (fun _ => rfl)) ?_
          simp only [Act.put, List.getElem_toArray, List.getElem_cons_zero, List.getElem_cons_succ, List.setIfInBounds_toArray, List.set_cons_zero, List.set_cons_succ]
          refine wpAnyH_take (i := 15) (v := undef) rfl (by kernel_rfl) (by kernel_rfl) (by kernel_rfl) (fun _ _ _ h => h) (Or.inr ⟨by kernel_rfl, rfl⟩) (sK _ (fun _ => rfl)) ?_
          simp only [Act.put, List.getElem_toArray, List.getElem_cons_zero, List.getElem_cons_succ, List.setIfInBounds_toArray, List.set_cons_zero, List.set_cons_succ]
          refine wpAnyH_take (i := 16) (v := undef) rfl (by kernel_rfl) (by kernel_rfl) (by kernel_rfl) (fun _ _ _ h => h) (Or.inr ⟨by kernel_rfl, rfl⟩) (sK _ (fun _ => rfl)) ?_
          simp only [Act.put, List.getElem_toArray, List.getElem_cons_zero, List.getElem_cons_succ, List.setIfInBounds_toArray, List.set_cons_zero, List.set_cons_succ]
          refine wpAnyH_take (i := 17) (v := undef) rfl (by kernel_rfl) (by kernel_rfl) (by kernel_rfl) (fun _ _ _ h => h) (Or.inr ⟨by kernel_rfl, rfl⟩) (sK _ (fun _ => rfl)) ?_
          simp only [Act.put, List.getElem_toArray, List.getElem_cons_zero, List.getElem_cons_succ, List.setIfInBounds_toArray, List.set_cons_zero, List.set_cons_succ]
          refine wpAnyH_take (i := 18) (v := undef) rfl (by kernel_rfl) (by kernel_rfl) (by kernel_rfl) (fun _ _ _ h => h) (Or.inr ⟨by kernel_rfl, rfl⟩) (sK _ (fun _ => rfl)) ?_
          simp only [Act.put, List.getElem_toArray, List.getElem_cons_zero, List.getElem_cons_succ, List.setIfInBounds_toArray, List.set_cons_zero, List.set_cons_succ]
          refine wpAnyH_take (i := 19) (v := undef) rfl (by kernel_rfl) (by kernel_rfl) (by kernel_rfl) (fun _ _ _ h => h) (Or.inr ⟨by kernel_rfl, rfl⟩) (sK _ (fun _ => rfl)) ?_
          simp only [Act.put, List.getElem_toArray, List.getElem_cons_zero, List.getElem_cons_succ, List.setIfInBounds_toArray, List.set_cons_zero, List.set_cons_succ]
          refine wpAnyH_take (i := 20) (v := undef) rfl (by kernel_rfl) (by kernel_rfl) (by kernel_rfl) (fun _ _ _ h => h) (Or.inr ⟨by kernel_rfl, rfl⟩) (sK _ (fun _ => rfl)) ?_
          simp only [Act.put, List.getElem_toArray, List.getElem_cons_zero, List.getElem_cons_succ, List.setIfInBounds_toArray, List.set_cons_zero, List.set_cons_succ]
          refine wpAnyH_take (i := 21) (v := undef) rfl (by kernel_rfl) (by kernel_rfl) (by kernel_rfl) (fun _ _ _ h => h) (Or.inr ⟨by kernel_rfl, rfl⟩) (sK _ (fun _ => rfl)) ?_
          simp only [Act.put, List.getElem_toArray, List.getElem_cons_zero, List.getElem_cons_succ, List.setIfInBounds_toArray, List.set_cons_zero, List.set_cons_succ]
          refine wpAnyH_take (i := 22) (v := undef) rfl (by kernel_rfl) (by kernel_rfl) (by kernel_rfl) (fun _ _ _ h => h) (Or.inr ⟨by kernel_rfl, rfl⟩) (sK _ (fun _ => rfl)) ?_
          simp only [Act.put, List.getElem_toArray, List.getElem_cons_zero, List.getElem_cons_succ, List.setIfInBounds_toArray, List.set_cons_zero, List.set_cons_succ]
          refine wpAnyH_take (i := 23) (v := undef) rfl (by kernel_rfl) (by kernel_rfl) (by kernel_rfl) (fun _ _ _ h => h) (Or.inr ⟨by kernel_rfl, rfl⟩) (sK _ (fun _ => rfl)) ?_
          simp only [Act.put, List.getElem_toArray, List.getElem_cons_zero, List.getElem_cons_succ, List.setIfInBounds_toArray, List.set_cons_zero, List.set_cons_succ]
          refine wpAnyH_take (i := 24) (v := ?_) rfl (by kernel_rfl) (by kernel_rfl) (by kernel_rfl) (fun _ _ _ h => h) (Or.inl ⟨by rfl, ?_⟩) (sK _ (fun _ => rfl)) ?_
          rotate_left
          · (intro wS hSw; (try dsimp only at hSw); go_simp; try with_reducible rfl)
          simp only [Act.put, List.getElem_toArray, List.getElem_cons_zero, List.getElem_cons_succ, List.setIfInBounds_toArray, List.set_cons_zero, List.set_cons_succ]
          refine wpAnyH_done (by kernel_rfl) ?_ _
          go_wp2_with fail
          go_roundw
          case rel => exact ⟨s, s, true, by omega, HP, rfl, rfl, by go_num, _, rfl⟩
          case measure => simp [intOf]
        obtain ⟨b1, o1, rfl, _, h1⟩ := rdZ_row HA.out (by omega) (by omega)
        obtain ⟨b2, o2, rfl, _, h2⟩ := rdZ_row HA2.out (by omega) (by omega)
        by_cases hw0 : True
        · skip
          have a0 : V.cell? ⟨b1, o1 + s * 7, none⟩ = _ := h1 s 0 (by omega) (by omega)
          have a1 := h1 s 1 (by omega) (by omega)
          have a2 := h1 s 2 (by omega) (by omega)
          have a3 := h1 s 3 (by omega) (by omega)
          have a4 := h1 s 4 (by omega) (by omega)
          have a5 := h1 s 5 (by omega) (by omega)
          have a6 := h1 s 6 (by omega) (by omega)
          have e0 : V.cell? ⟨b2, o2 + s * 7, none⟩ = _ := h2 s 0 (by omega) (by omega)
          have e1 := h2 s 1 (by omega) (by omega)
          have e2 := h2 s 2 (by omega) (by omega)
          have e3 := h2 s 3 (by omega) (by omega)
          have e4 := h2 s 4 (by omega) (by omega)
          have e5 := h2 s 5 (by omega) (by omega)
          have e6 := h2 s 6 (by omega) (by omega)
          clear h1 h2
          obtain ⟨x0, hx0⟩ : ∃ x, z s 0 = x := ⟨_, rfl⟩
          obtain ⟨y0, hy0⟩ : ∃ y, z2 s 0 = y := ⟨_, rfl⟩
          rw [hx0] at a0
          rw [hy0] at e0
          obtain ⟨x1, hx1⟩ : ∃ x, z s 1 = x := ⟨_, rfl⟩
          obtain ⟨y1, hy1⟩ : ∃ y, z2 s 1 = y := ⟨_, rfl⟩
          rw [hx1] at a1
          rw [hy1] at e1
          obtain ⟨x2, hx2⟩ : ∃ x, z s 2 = x := ⟨_, rfl⟩
          obtain ⟨y2, hy2⟩ : ∃ y, z2 s 2 = y := ⟨_, rfl⟩
          rw [hx2] at a2
          rw [hy2] at e2
          obtain ⟨x3, hx3⟩ : ∃ x, z s 3 = x := ⟨_, rfl⟩
          obtain ⟨y3, hy3⟩ : ∃ y, z2 s 3 = y := ⟨_, rfl⟩
          rw [hx3] at a3
          rw [hy3] at e3
          obtain ⟨x4, hx4⟩ : ∃ x, z s 4 = x := ⟨_, rfl⟩
          obtain ⟨y4, hy4⟩ : ∃ y, z2 s 4 = y := ⟨_, rfl⟩
          rw [hx4] at a4
          rw [hy4] at e4
          obtain ⟨x5, hx5⟩ : ∃ x, z s 5 = x := ⟨_, rfl⟩
          obtain ⟨y5, hy5⟩ : ∃ y, z2 s 5 = y := ⟨_, rfl⟩
          rw [hx5] at a5
          rw [hy5] at e5
          obtain ⟨x6, hx6⟩ : ∃ x, z s 6 = x := ⟨_, rfl⟩
          obtain ⟨y6, hy6⟩ : ∃ y, z2 s 6 = y := ⟨_, rfl⟩
          rw [hx6] at a6
          rw [hy6] at e6
          by_cases hs : x0 = y0 ∧ x1 = y1 ∧ x2 = y2 ∧ x3 = y3 ∧ x4 = y4 ∧ x5 = y5 ∧ x6 = y6
          · have HP : Hid (PartFrom nt nt2 z z2 s a bb) := Lib.hid (pf_old hall.out ⟨by omega, by omega, fun j hj => by
              rcases j with _ | _ | _ | _ | _ | _ | _ | j <;> first | omega | (simp only [hx0, hx1, hx2, hx3, hx4, hx5, hx6, hy0, hy1, hy2, hy3, hy4, hy5, hy6, hs])⟩)
            clear hx0 hy0 hx1 hy1 hx2 hy2 hx3 hy3 hx4 hy4 hx5 hy5 hx6 hy6 hall hw0
            obtain ⟨rfl, rfl, rfl, rfl, rfl, rfl, rfl⟩ := hs
            go_wp2_with fail
            go_quiet (fail)
            go_wp2_with fail
            go_roundw
            case rel => exact ⟨s, a, bb, by omega, HP, rfl, rfl, by go_num, _, rfl⟩
            case measure => simp [intOf]
          · have HP : Hid (PartFrom nt nt2 z z2 s s true) := Lib.hid (pf_new hall.out (by omega) (fun hc => hs ⟨by rw [← hx0, ← hy0]; exact hc.2.2 0 (by omega), by rw [← hx1, ← hy1]; exact hc.2.2 1 (by omega), by rw [← hx2, ← hy2]; exact hc.2.2 2 (by omega), by rw [← hx3, ← hy3]; exact hc.2.2 3 (by omega), by rw [← hx4, ← hy4]; exact hc.2.2 4 (by omega), by rw [← hx5, ← hy5]; exact hc.2.2 5 (by omega), by rw [← hx6, ← hy6]; exact hc.2.2 6 (by omega)⟩))
            clear hx0 hy0 hx1 hy1 hx2 hy2 hx3 hy3 hx4 hy4 hx5 hy5 hx6 hy6 hall hw0
            have hw : ((x0 == y0) = false) ∨ (x0 = y0 ∧ (x1 == y1) = false) ∨ (x0 = y0 ∧ x1 = y1 ∧ (x2 == y2) = false) ∨ (x0 = y0 ∧ x1 = y1 ∧ x2 = y2 ∧ (x3 == y3) = false) ∨ (x0 = y0 ∧ x1 = y1 ∧ x2 = y2 ∧ x3 = y3 ∧ (x4 == y4) = false) ∨ (x0 = y0 ∧ x1 = y1 ∧ x2 = y2 ∧ x3 = y3 ∧ x4 = y4 ∧ (x5 == y5) = false) ∨ (x0 = y0 ∧ x1 = y1 ∧ x2 = y2 ∧ x3 = y3 ∧ x4 = y4 ∧ x5 = y5 ∧ (x6 == y6) = false) := by
              by_cases g0 : x0 = y0
              case neg => exact Or.inl (by simpa using g0)
              by_cases g1 : x1 = y1
              case neg => exact Or.inr (Or.inl ⟨g0, by simpa using g1⟩)
              by_cases g2 : x2 = y2
              case neg => exact Or.inr (Or.inr (Or.inl ⟨g0, g1, by simpa using g2⟩))
              by_cases g3 : x3 = y3
              case neg => exact Or.inr (Or.inr (Or.inr (Or.inl ⟨g0, g1, g2, by simpa using g3⟩)))
              by_cases g4 : x4 = y4
              case neg => exact Or.inr (Or.inr (Or.inr (Or.inr (Or.inl ⟨g0, g1, g2, g3, by simpa using g4⟩))))
              by_cases g5 : x5 = y5
              case neg => exact Or.inr (Or.inr (Or.inr (Or.inr (Or.inr (Or.inl ⟨g0, g1, g2, g3, g4, by simpa using g5⟩)))))
              by_cases g6 : x6 = y6
              case neg => exact Or.inr (Or.inr (Or.inr (Or.inr (Or.inr (Or.inr (⟨g0, g1, g2, g3, g4, g5, by simpa using g6⟩))))))
              exact absurd ⟨g0, g1, g2, g3, g4, g5, g6⟩ hs
            clear hs
            rcases hw with hb | ⟨rfl, hb⟩ | ⟨rfl, rfl, hb⟩ | ⟨rfl, rfl, rfl, hb⟩ | ⟨rfl, rfl, rfl, rfl, hb⟩ | ⟨rfl, rfl, rfl, rfl, rfl, hb⟩ | ⟨rfl, rfl, rfl, rfl, rfl, rfl, hb⟩
            · go_wp2_with fail
              go_quiet (fail)
              go_wp2_with fail
              go_roundw
              case rel => exact ⟨s, s, true, by omega, HP, rfl, rfl, by go_num, _, rfl⟩
              case measure => simp [intOf]
            · go_wp2_with fail
              go_quiet (fail)
              go_wp2_with fail
              go_roundw
              case rel => exact ⟨s, s, true, by omega, HP, rfl, rfl, by go_num, _, rfl⟩
              case measure => simp [intOf]
            · go_wp2_with fail
              go_quiet (fail)
              go_wp2_with fail
              go_roundw
              case rel => exact ⟨s, s, true, by omega, HP, rfl, rfl, by go_num, _, rfl⟩
              case measure => simp [intOf]
            · go_wp2_with fail
              go_quiet (fail)
              go_wp2_with fail
              go_roundw
              case rel => exact ⟨s, s, true, by omega, HP, rfl, rfl, by go_num, _, rfl⟩
              case measure => simp [intOf]
            · go_wp2_with fail
              go_quiet (fail)
              go_wp2_with fail
              go_roundw
              case rel => exact ⟨s, s, true, by omega, HP, rfl, rfl, by go_num, _, rfl⟩
              case measure => simp [intOf]
            · go_wp2_with fail
              go_quiet (fail)
              go_wp2_with fail
              go_roundw
              case rel => exact ⟨s, s, true, by omega, HP, rfl, rfl, by go_num, _, rfl⟩
              case measure => simp [intOf]
            · go_wp2_with fail
              go_quiet (fail)
              go_wp2_with fail
              go_roundw
              case rel => exact ⟨s, s, true, by omega, HP, rfl, rfl, by go_num, _, rfl⟩
              case measure => simp [intOf]
        · exact absurd trivial hw0
      · obtain rfl : p = 0 := by omega
        go_wp2_with fail
        refine (dtrips_any T T2 ct ct2 nt nt2 z z2 _ (RdZ.kept HA.out (below_drewN (Below.refl _ _) q)) (RdZ.kept HA2.out (below_drewN (Below.refl _ _) q)) (by omega) (by omega)).mono fun e W3 ⟨i, c, he, hq, kd, hkd⟩ => ?_
        obtain ⟨rfl, rfl⟩ := pf_one hall.out hq.out
        subst he hkd
        clear hall hq
        obtain ⟨q, hq⟩ : ∃ q', (V.drewN q).drewN kd = V.drewN q' := ⟨_, World.drewN_drewN ..⟩
        rw [hq]
        clear hq
        have EV := E2
        clear E2
        have k1 : V.cell? ⟨g, 1, none⟩ = some (.slice A n d) := LA2.out.cell 1
        have k4 : V.cell? ⟨g + 1, 1, none⟩ = some (.slice A2 n2 d2) := LB2.out.cell 1
        by_cases hy : n2 < n
        · skip
          go_wp2_with fail
          go_loopw [10] (fun i wr => ∃ k : Nat, k ≤ n2 ∧ i = .int .i64 k ∧ ∃ q, wr = V.drewN q) (fun i _ => n2 - (intOf i).toNat)
          case atStart => exact ⟨0, by omega, rfl, _, rfl⟩
          case round =>
            obtain ⟨k, hk, rfl, q, rfl⟩ := hrel
            by_cases h : k < n2
            · skip
              have h' : k < n ∧ k < n2 := by omega
              obtain ⟨b1, o1, rfl, _, h1⟩ := rdW_row HB.out (by omega)
              obtain ⟨b2, o2, rfl, _, h2⟩ := rdW_row HB2.out (by omega)
              have c1 : V.cell? ⟨b1, o1 + k, none⟩ = _ := h1 k h'.1
              have c2 : V.cell? ⟨b2, o2 + k, none⟩ = _ := h2 k h'.2
              have KB : ∀ q, RdW (V.drewN q) 4 shLeg _ n P ln cp v := fun q => RdW.kept OB.out (below_drewN EV.out q)
              have KB2 : ∀ q, RdW (V.drewN q) 4 shLeg _ n2 P2 ln2 cp2 v2 := fun q => RdW.kept OB2.out (below_drewN EV.out q)
              have hM : maxLen ≤ 9223372036854775807 := by decide
              have KC := Lib.hid (fun q => let l := rdW_at (KB q) h'.1; let m := rdW_at (KB2 q) h'.2; dlegs_eq (P k) (P2 k) (cp k) (cp2 k) (ln k) (ln2 k) (v k) (v2 k) (V.drewN q) l.2.2 m.2.2 (by omega) (by omega))
              have KD := Lib.hid (fun q => let l := rdW_at (KB q) h'.1; let m := rdW_at (KB2 q) h'.2; legs_eq (P k) (P2 k) (cp k) (cp2 k) (ln k) (ln2 k) (v k) (v2 k) (V.drewN q) l.2.2 m.2.2 (by omega) (by omega))
              clear h1 h2 KB KB2 hM
              obtain ⟨p1, hp1⟩ : ∃ x, P k = x := ⟨_, rfl⟩
              obtain ⟨p2, hp2⟩ : ∃ x, P2 k = x := ⟨_, rfl⟩
              obtain ⟨l1, hl1⟩ : ∃ x, ln k = x := ⟨_, rfl⟩
              obtain ⟨l2, hl2⟩ : ∃ x, ln2 k = x := ⟨_, rfl⟩
              obtain ⟨f1, hd1⟩ : ∃ x, cp k = x := ⟨_, rfl⟩
              obtain ⟨f2, hf2⟩ : ∃ x, cp2 k = x := ⟨_, rfl⟩
              obtain ⟨r, hr⟩ : ∃ x, sameV 4 l1 l2 (v k) (v2 k) = x := ⟨_, rfl⟩
              rw [hp1, hl1, hd1] at c1
              rw [hp2, hl2, hf2] at c2
              rw [hp1, hl1, hd1, hp2, hl2, hf2, hr] at KC KD
              have hrr : (r != r) = false := by simp
              clear hp1 hp2 hl1 hl2 hd1 hf2 hr
              go_wp2_with fail
              have sK : ∀ X : World, (∀ a, X.cell? a = V.cell? a) → (fun X : World => X.cell? ⟨g, 1, none⟩ = some (.slice (some ⟨b1, o1, none⟩) n d) ∧ X.cell? ⟨g + 1, 1, none⟩ = some (.slice (some ⟨b2, o2, none⟩) n2 d2) ∧ X.cell? ⟨b1, o1 + k, none⟩ = some (.slice p1 l1 f1) ∧ X.cell? ⟨b2, o2 + k, none⟩ = some (.slice p2 l2 f2)) X := fun X h => ⟨(h _).trans k1, (h _).trans k4, (h _).trans c1, (h _).trans c2⟩
              clear k1 k4 c1 c2
              refine wp_region_held_drew (S := (fun X : World => X.cell? ⟨g, 1, none⟩ = some (.slice (some ⟨b1, o1, none⟩) n d) ∧ X.cell? ⟨g + 1, 1, none⟩ = some (.slice (some ⟨b2, o2, none⟩) n2 d2) ∧ X.cell? ⟨b1, o1 + k, none⟩ = some (.slice p1 l1 f1) ∧ X.cell? ⟨b2, o2 + k, none⟩ = some (.slice p2 l2 f2))) (by kernel_rfl) (sK _ (fun _ => rfl)) (fun hHeld => ?_)
              clear hHeld
              refine wpAnyH_take (i := 0) (v := ?_) rfl (by kernel_rfl) (by kernel_rfl) (by kernel_rfl) (fun _ _ _ h => h) (Or.inl ⟨by rfl, ?_⟩) (sK _ (fun _ => rfl)) ?_
              rotate_left
              · (intro wS hSw; (try dsimp only at hSw); go_simp; try with_reducible rfl)
              simp only [Act.put, List.getElem_toArray, List.getElem_cons_zero, List.getElem_cons_succ, List.setIfInBounds_toArray, List.set_cons_zero, List.set_cons_succ]
              refine wpAnyH_take (i := 1) (v := ?_) rfl (by kernel_rfl) (by kernel_rfl) (by kernel_rfl) (fun _ _ _ h => h) (Or.inl ⟨by rfl, ?_⟩) (sK _ (fun _ => rfl)) ?_
              rotate_left
              · (intro wS hSw; (try dsimp only at hSw); go_simp; try with_reducible rfl)
              simp only [Act.put, List.getElem_toArray, List.getElem_cons_zero, List.getElem_cons_succ, List.setIfInBounds_toArray, List.set_cons_zero, List.set_cons_succ]
              refine wpAnyH_take (i := 2) (v := ?_) rfl (by kernel_rfl) (by kernel_rfl) (by kernel_rfl) (fun _ _ _ h => h) (Or.inl ⟨by rfl, ?_⟩) (sK _ (fun _ => rfl)) ?_
              rotate_left
              · (intro wS hSw; (try dsimp only at hSw); go_simp; try with_reducible rfl)
              simp only [Act.put, List.getElem_toArray, List.getElem_cons_zero, List.getElem_cons_succ, List.setIfInBounds_toArray, List.set_cons_zero, List.set_cons_succ]
              refine wpAnyH_take (i := 3) (v := ?_) rfl (by kernel_rfl) (by kernel_rfl) (by kernel_rfl) (fun _ _ _ h => h) (Or.inl ⟨by rfl, ?_⟩) (sK _ (fun _ => rfl)) ?_
              rotate_left
              · (intro wS hSw; (try dsimp only at hSw); go_simp; try with_reducible rfl)
              simp only [Act.put, List.getElem_toArray, List.getElem_cons_zero, List.getElem_cons_succ, List.setIfInBounds_toArray, List.set_cons_zero, List.set_cons_succ]
              refine wpAnyH_take (i := 4) (v := ?_) rfl (by kernel_rfl) (by kernel_rfl) (by kernel_rfl) (fun _ _ _ h => h) (Or.inl ⟨by rfl, ?_⟩) (sK _ (fun _ => rfl)) ?_
              rotate_left
              · (intro wS hSw; (try dsimp only at hSw); go_simp; try with_reducible rfl)
              simp only [Act.put, List.getElem_toArray, List.getElem_cons_zero, List.getElem_cons_succ, List.setIfInBounds_toArray, List.set_cons_zero, List.set_cons_succ]
              refine wpAnyH_take (i := 5) (v := ?_) rfl (by kernel_rfl) (by kernel_rfl) (by kernel_rfl) (fun _ _ _ h => h) (Or.inl ⟨by rfl, ?_⟩) (sK _ (fun _ => rfl)) ?_
              rotate_left
              · (intro wS hSw; (try dsimp only at hSw); go_simp; try with_reducible rfl)
              simp only [Act.put, List.getElem_toArray, List.getElem_cons_zero, List.getElem_cons_succ, List.setIfInBounds_toArray, List.set_cons_zero, List.set_cons_succ]
              refine wpAnyH_take (i := 6) (v := ?_) rfl (by kernel_rfl) (by kernel_rfl) (by kernel_rfl) (fun _ _ _ h => h) (Or.inl ⟨by rfl, ?_⟩) (sK _ (fun _ => rfl)) ?_
              rotate_left
              · (intro wS hSw; (try dsimp only at hSw); go_simp; try with_reducible rfl)
              simp only [Act.put, List.getElem_toArray, List.getElem_cons_zero, List.getElem_cons_succ, List.setIfInBounds_toArray, List.set_cons_zero, List.set_cons_succ]
              refine wpAnyH_take (i := 7) (v := ?_) rfl (by kernel_rfl) (by kernel_rfl) (by kernel_rfl) (fun _ _ _ h => h) (Or.inl ⟨by rfl, ?_⟩) (sK _ (fun _ => rfl)) ?_
              rotate_left
              · (intro wS hSw; (try dsimp only at hSw); go_simp; try with_reducible rfl)
              simp only [Act.put, List.getElem_toArray, List.getElem_cons_zero, List.getElem_cons_succ, List.setIfInBounds_toArray, List.set_cons_zero, List.set_cons_succ]
              refine wpAnyH_take (i := 8) (v := ?_) rfl (by kernel_rfl) (by kernel_rfl) (by kernel_rfl) (fun _ _ _ h => h) (Or.inl ⟨by rfl, ?_⟩) (sK _ (fun _ => rfl)) ?_
              rotate_left
              · (intro wS hSw; (try dsimp only at hSw); go_simp; try with_reducible rfl)
              simp only [Act.put, List.getElem_toArray, List.getElem_cons_zero, List.getElem_cons_succ, List.setIfInBounds_toArray, List.set_cons_zero, List.set_cons_succ]
              refine wpAnyH_take (i := 9) (v := ?_) rfl (by kernel_rfl) (by kernel_rfl) (by kernel_rfl) (fun _ _ _ h => h) (Or.inl ⟨by rfl, ?_⟩) (sK _ (fun _ => rfl)) ?_
              rotate_left
              · (intro wS hSw; (try dsimp only at hSw); go_simp; try with_reducible rfl)
              simp only [Act.put, List.getElem_toArray, List.getElem_cons_zero, List.getElem_cons_succ, List.setIfInBounds_toArray, List.set_cons_zero, List.set_cons_succ]
              refine wpAnyH_take (i := 11) (v := ?_) rfl (by kernel_rfl) (by kernel_rfl) (by kernel_rfl) (fun _ _ _ h => h) (Or.inl ⟨by rfl, ?_⟩) (sK _ (fun _ => rfl)) ?_
              rotate_left
              · (intro wS hSw; (try dsimp only at hSw); go_simp; try with_reducible rfl)
              simp only [Act.put, List.getElem_toArray, List.getElem_cons_zero, List.getElem_cons_succ, List.setIfInBounds_toArray, List.set_cons_zero, List.set_cons_succ]
              refine wpAnyH_take (i := 12) (v := ?_) rfl (by kernel_rfl) (by kernel_rfl) (by kernel_rfl) (fun _ _ _ h => h) (Or.inl ⟨by rfl, ?_⟩) (sK _ (fun _ => rfl)) ?_
              rotate_left
              · (intro wS hSw; (try dsimp only at hSw); go_simp; try with_reducible rfl)
              simp only [Act.put, List.getElem_toArray, List.getElem_cons_zero, List.getElem_cons_succ, List.setIfInBounds_toArray, List.set_cons_zero, List.set_cons_succ]
              refine wpAnyH_take (i := 13) (v := ?_) rfl (by kernel_rfl) (by kernel_rfl) (by kernel_rfl) (fun _ _ _ h => h) (Or.inl ⟨by rfl, ?_⟩) (sK _ (fun _ => rfl)) ?_
              rotate_left
              · (intro wS hSw; (try dsimp only at hSw); go_simp; try with_reducible rfl)
              simp only [Act.put, List.getElem_toArray, List.getElem_cons_zero, List.getElem_cons_succ, List.setIfInBounds_toArray, List.set_cons_zero, List.set_cons_succ]
              refine wpAnyH_take (i := 14) (v := ?_) rfl (by kernel_rfl) (by kernel_rfl) (by kernel_rfl) (fun _ _ _ h => h) (Or.inl ⟨by rfl, ?_⟩) (sK _ (fun _ => rfl)) ?_
              rotate_left
              · (intro wS hSw; (try dsimp only at hSw); go_simp; try with_reducible rfl)
              simp only [Act.put, List.getElem_toArray, List.getElem_cons_zero, List.getElem_cons_succ, List.setIfInBounds_toArray, List.set_cons_zero, List.set_cons_succ]
              refine wpAnyH_take (i := 15) (v := ?_) rfl (by kernel_rfl) (by kernel_rfl) (by kernel_rfl) (fun _ _ _ h => h) (Or.inl ⟨by rfl, ?_⟩) (sK _ (fun _ => rfl)) ?_
              rotate_left
              · (intro wS hSw; (try dsimp only at hSw); go_simp; try with_reducible rfl)
              simp only [Act.put, List.getElem_toArray, List.getElem_cons_zero, List.getElem_cons_succ, List.setIfInBounds_toArray, List.set_cons_zero, List.set_cons_succ]
              refine wpAnyH_take (i := 16) (v := ?_) rfl (by kernel_rfl) (by kernel_rfl) (by kernel_rfl) (fun _ _ _ h => h) (Or.inl ⟨by rfl, ?_⟩) (sK _ (fun _ => rfl)) ?_
              rotate_left
              · (intro wS hSw; (try dsimp only at hSw); go_simp; try with_reducible rfl)
              simp only [Act.put, List.getElem_toArray, List.getElem_cons_zero, List.getElem_cons_succ, List.setIfInBounds_toArray, List.set_cons_zero, List.set_cons_succ]
              refine wpAnyH_take (i := 17) (v := ?_) rfl (by kernel_rfl) (by kernel_rfl) (by kernel_rfl) (fun _ _ _ h => h) (Or.inl ⟨by rfl, ?_⟩) (sK _ (fun _ => rfl)) ?_
              rotate_left
              · (intro wS hSw; (try dsimp only at hSw); go_simp; try with_reducible rfl)
              simp only [Act.put, List.getElem_toArray, List.getElem_cons_zero, List.getElem_cons_succ, List.setIfInBounds_toArray, List.set_cons_zero, List.set_cons_succ]
              refine wpAnyH_take (i := 18) (v := ?_) rfl (by kernel_rfl) (by kernel_rfl) (by kernel_rfl) (fun _ _ _ h => h) (Or.inl ⟨by rfl, ?_⟩) (sK _ (fun _ => rfl)) ?_
              rotate_left
              · (intro wS hSw; (try dsimp only at hSw); go_simp; try with_reducible rfl)
              simp only [Act.put, List.getElem_toArray, List.getElem_cons_zero, List.getElem_cons_succ, List.setIfInBounds_toArray, List.set_cons_zero, List.set_cons_succ]
              refine wpAnyH_take (i := 19) (v := ?_) rfl (by kernel_rfl) (by kernel_rfl) (by kernel_rfl) (fun _ _ _ h => h) (Or.inl ⟨by rfl, ?_⟩) (sK _ (fun _ => rfl)) ?_
              rotate_left
              · (intro wS hSw; (try dsimp only at hSw); go_simp; try with_reducible rfl)
              simp only [Act.put, List.getElem_toArray, List.getElem_cons_zero, List.getElem_cons_succ, List.setIfInBounds_toArray, List.set_cons_zero, List.set_cons_succ]
              refine wpAnyH_take (i := 20) (v := ?_) rfl (by kernel_rfl) (by kernel_rfl) (by kernel_rfl) (fun _ _ _ h => h) (Or.inl ⟨by rfl, ?_⟩) (sK _ (fun _ => rfl)) ?_
              rotate_left
              · (intro wS hSw; (try dsimp only at hSw); go_simp; try with_reducible rfl)
              simp only [Act.put, List.getElem_toArray, List.getElem_cons_zero, List.getElem_cons_succ, List.setIfInBounds_toArray, List.set_cons_zero, List.set_cons_succ]
              refine wpAnyH_ready (rs := [10]) (by kernel_rfl) (by simp) ?_
              refine AllReadyH.cons rfl (fun K hK => ?_) AllReadyH.nil
              go_simp
              refine (KC.out (q + 1)).mono ?_
              rintro e r1 ⟨rfl, x1, rfl⟩
              go_wp2_with fail
              refine hK.out _ _ (sK _ (fun _ => rfl)) (fun hHeld => ?_)
              clear hK K hHeld
              try simp only [Act.put, List.getElem_toArray, List.getElem_cons_zero, List.getElem_cons_succ, List.setIfInBounds_toArray, List.set_cons_zero, List.set_cons_succ]
              refine wpAnyH_ready (rs := [21]) (by kernel_rfl) (by simp) ?_
              refine AllReadyH.cons rfl (fun K hK => ?_) AllReadyH.nil
              go_simp
              refine (KD.out (q + 1 + x1)).mono ?_
              rintro e r1 ⟨rfl, x2, rfl⟩
              go_wp2_with fail
              refine hK.out _ _ (sK _ (fun _ => rfl)) (fun hHeld => ?_)
              clear hK K hHeld
              try simp only [Act.put, List.getElem_toArray, List.getElem_cons_zero, List.getElem_cons_succ, List.setIfInBounds_toArray, List.set_cons_zero, List.set_cons_succ]
              refine wpAnyH_take (i := 22) (v := ?_) rfl (by kernel_rfl) (by kernel_rfl) (by kernel_rfl) (fun _ _ _ h => h) (Or.inl ⟨by rfl, ?_⟩) (sK _ (fun _ => rfl)) ?_
              rotate_left
              · (intro wS hSw; (try dsimp only at hSw); go_simp; try with_reducible rfl)
              simp only [Act.put, List.getElem_toArray, List.getElem_cons_zero, List.getElem_cons_succ, List.setIfInBounds_toArray, List.set_cons_zero, List.set_cons_succ]
              refine wpAnyH_done (by kernel_rfl) ?_ _
              go_wp2_with fail
              go_roundw
              case rel => exact ⟨k + 1, by omega, by go_num, _, by first | rfl | exact World.drewN_drewN ..⟩
              case measure => simp [intOf]; omega
            · skip
              go_wp2_with fail
              clear k0 k1 k2 k3 k4 k5
              have E9 := below_drewN EV.out q
              have B9 := Blk.next (w := V) LA2.out (below_drewN (Below.refl _ _) q)
              have C9 := Blk.next (w := V) LB2.out (below_drewN (Below.refl _ _) q)
              obtain ⟨V9, hV9⟩ : ∃ X, V.drewN q = X := ⟨_, rfl⟩
              rw [hV9] at E9 B9 C9 ⊢
              clear hV9
              have EE := Lib.hid E9
              have Ha := Lib.hid B9
              have Hb := Lib.hid C9
              clear E9 B9 C9
              obtain ⟨rr, hrr⟩ : ∃ r, sameL u u2 nt nt2 z z2 n n2 ln ln2 v v2 = r := ⟨_, rfl⟩
              have KS : ∀ X, Below w.heap.size w X → _ := fun X hX => dsame_any T T2 A A2 ct ct2 d d2 nt nt2 n n2 u u2 z z2 P P2 ln ln2 cp cp2 v v2 X (RdZ.kept OA.out hX) (RdZ.kept OA2.out hX) (RdW.kept OB.out hX) (RdW.kept OB2.out hX) (by omega) (by omega) (by omega) (by omega)
              have KW : ∀ X, Below w.heap.size w X → _ := fun X hX => wsame_any T T2 A A2 ct ct2 d d2 nt nt2 n n2 u u2 z z2 P P2 ln ln2 cp cp2 v v2 X (RdZ.kept OA.out hX) (RdZ.kept OA2.out hX) (RdW.kept OB.out hX) (RdW.kept OB2.out hX) (by omega) (by omega) (by omega) (by omega)
              have KZ : ∀ X, Below w.heap.size w X → _ := fun X hX => dsame_any T T A A ct ct d d nt nt n n u u z z P P ln ln cp cp v v X (RdZ.kept OA.out hX) (RdZ.kept OA.out hX) (RdW.kept OB.out hX) (RdW.kept OB.out hX) (by omega) (by omega) (by omega) (by omega)
              rw [hrr] at KS KW
              rw [sameL_self] at KZ
              have hr1 : (rr == rr) = true := by simp
              have hc1 : (c == c) = true := by simp
              have hz1 : ((i : Int) == (i : Int)) = true := by simp
              clear hrr
              have KS := Lib.hid KS; have KW := Lib.hid KW; have KZ := Lib.hid KZ
              have ka0 : V9.cell? ⟨g, 0, none⟩ = some (.slice T nt ct) := Ha.out.cell 0
              have ka1 : V9.cell? ⟨g, 1, none⟩ = some (.slice A n d) := Ha.out.cell 1
              have ka2 : V9.cell? ⟨g, 2, none⟩ = some (.int .i64 u) := Ha.out.cell 2
              have kb0 : V9.cell? ⟨g + 1, 0, none⟩ = some (.slice T2 nt2 ct2) := Hb.out.cell 0
              have kb1 : V9.cell? ⟨g + 1, 1, none⟩ = some (.slice A2 n2 d2) := Hb.out.cell 1
              have kb2 : V9.cell? ⟨g + 1, 2, none⟩ = some (.int .i64 u2) := Hb.out.cell 2
              go_wp2_with fail
              have sK : ∀ X, Blk X (g) 25 #[.slice T nt ct, .slice A n d, .int .i64 u] → Blk X (g + 1) 25 #[.slice T2 nt2 ct2, .slice A2 n2 d2, .int .i64 u2] → (fun X => X.cell? ⟨g, 0, none⟩ = some (.slice T nt ct) ∧ X.cell? ⟨g, 1, none⟩ = some (.slice A n d) ∧ X.cell? ⟨g, 2, none⟩ = some (.int .i64 u) ∧ X.cell? ⟨g + 1, 0, none⟩ = some (.slice T2 nt2 ct2) ∧ X.cell? ⟨g + 1, 1, none⟩ = some (.slice A2 n2 d2) ∧ X.cell? ⟨g + 1, 2, none⟩ = some (.int .i64 u2)) X := fun X ha hb => ⟨ha.cell 0, ha.cell 1, ha.cell 2, hb.cell 0, hb.cell 1, hb.cell 2⟩
              have La0 := Lib.hid (Ha.out.drew)
              have Lb0 := Lib.hid (Hb.out.drew)
              have E0 := Lib.hid (EE.out.drew)
              clear ka0 ka1 ka2 kb0 kb1 kb2
              refine wp_region_held_drew (S := (fun X => X.cell? ⟨g, 0, none⟩ = some (.slice T nt ct) ∧ X.cell? ⟨g, 1, none⟩ = some (.slice A n d) ∧ X.cell? ⟨g, 2, none⟩ = some (.int .i64 u) ∧ X.cell? ⟨g + 1, 0, none⟩ = some (.slice T2 nt2 ct2) ∧ X.cell? ⟨g + 1, 1, none⟩ = some (.slice A2 n2 d2) ∧ X.cell? ⟨g + 1, 2, none⟩ = some (.int .i64 u2))) (by kernel_rfl) (sK _ La0.out Lb0.out) (fun hHeld => ?_)
              clear hHeld
              refine wpAnyH_take (i := 0) (v := ?_) rfl (by kernel_rfl) (by kernel_rfl) (by kernel_rfl) (fun _ _ _ h => h) (Or.inl ⟨by rfl, ?_⟩) (sK _ La0.out Lb0.out) ?_
              rotate_left
              · (intro wS hSw; (try dsimp only at hSw); go_simp; try with_reducible rfl)
              simp only [Act.put, List.getElem_toArray, List.getElem_cons_zero, List.getElem_cons_succ, List.setIfInBounds_toArray, List.set_cons_zero, List.set_cons_succ]
              refine wpAnyH_take (i := 1) (v := ?_) rfl (by kernel_rfl) (by kernel_rfl) (by kernel_rfl) (fun _ _ _ h => h) (Or.inl ⟨by rfl, ?_⟩) (sK _ La0.out Lb0.out) ?_
              rotate_left
              · (intro wS hSw; (try dsimp only at hSw); go_simp; try with_reducible rfl)
              simp only [Act.put, List.getElem_toArray, List.getElem_cons_zero, List.getElem_cons_succ, List.setIfInBounds_toArray, List.set_cons_zero, List.set_cons_succ]
              refine wpAnyH_take (i := 2) (v := ?_) rfl (by kernel_rfl) (by kernel_rfl) (by kernel_rfl) (fun _ _ _ h => h) (Or.inl ⟨by rfl, ?_⟩) (sK _ La0.out Lb0.out) ?_
              rotate_left
              · (intro wS hSw; (try dsimp only at hSw); go_simp; try with_reducible rfl)
              simp only [Act.put, List.getElem_toArray, List.getElem_cons_zero, List.getElem_cons_succ, List.setIfInBounds_toArray, List.set_cons_zero, List.set_cons_succ]
              refine wpAnyH_take (i := 3) (v := ?_) rfl (by kernel_rfl) (by kernel_rfl) (by kernel_rfl) (fun _ _ _ h => h) (Or.inl ⟨by rfl, ?_⟩) (sK _ La0.out Lb0.out) ?_
              rotate_left
              · (intro wS hSw; (try dsimp only at hSw); go_simp; try with_reducible rfl)
              simp only [Act.put, List.getElem_toArray, List.getElem_cons_zero, List.getElem_cons_succ, List.setIfInBounds_toArray, List.set_cons_zero, List.set_cons_succ]
              refine wpAnyH_take (i := 4) (v := ?_) rfl (by kernel_rfl) (by kernel_rfl) (by kernel_rfl) (fun _ _ _ h => h) (Or.inl ⟨by rfl, ?_⟩) (sK _ La0.out Lb0.out) ?_
              rotate_left
              · (intro wS hSw; (try dsimp only at hSw); go_simp; try with_reducible rfl)
              simp only [Act.put, List.getElem_toArray, List.getElem_cons_zero, List.getElem_cons_succ, List.setIfInBounds_toArray, List.set_cons_zero, List.set_cons_succ]
              refine wpAnyH_take (i := 5) (v := ?_) rfl (by kernel_rfl) (by kernel_rfl) (by kernel_rfl) (fun _ _ _ h => h) (Or.inl ⟨by rfl, ?_⟩) (sK _ La0.out Lb0.out) ?_
              rotate_left
              · (intro wS hSw; (try dsimp only at hSw); go_simp; try with_reducible rfl)
              simp only [Act.put, List.getElem_toArray, List.getElem_cons_zero, List.getElem_cons_succ, List.setIfInBounds_toArray, List.set_cons_zero, List.set_cons_succ]
              refine wpAnyH_take (i := 6) (v := ?_) rfl (by kernel_rfl) (by kernel_rfl) (by kernel_rfl) (fun _ _ _ h => h) (Or.inl ⟨by rfl, ?_⟩) (sK _ La0.out Lb0.out) ?_
              rotate_left
              · (intro wS hSw; (try dsimp only at hSw); go_simp; try with_reducible rfl)
              simp only [Act.put, List.getElem_toArray, List.getElem_cons_zero, List.getElem_cons_succ, List.setIfInBounds_toArray, List.set_cons_zero, List.set_cons_succ]
              refine wpAnyH_take (i := 7) (v := ?_) rfl (by kernel_rfl) (by kernel_rfl) (by kernel_rfl) (fun _ _ _ h => h) (Or.inl ⟨by rfl, ?_⟩) (sK _ La0.out Lb0.out) ?_
              rotate_left
              · (intro wS hSw; (try dsimp only at hSw); go_simp; try with_reducible rfl)
              simp only [Act.put, List.getElem_toArray, List.getElem_cons_zero, List.getElem_cons_succ, List.setIfInBounds_toArray, List.set_cons_zero, List.set_cons_succ]
              refine wpAnyH_take (i := 8) (v := ?_) rfl (by kernel_rfl) (by kernel_rfl) (by kernel_rfl) (fun _ _ _ h => h) (Or.inl ⟨by rfl, ?_⟩) (sK _ La0.out Lb0.out) ?_
              rotate_left
              · (intro wS hSw; (try dsimp only at hSw); go_simp; try with_reducible rfl)
              simp only [Act.put, List.getElem_toArray, List.getElem_cons_zero, List.getElem_cons_succ, List.setIfInBounds_toArray, List.set_cons_zero, List.set_cons_succ]
              refine wpAnyH_take (i := 9) (v := ?_) rfl (by kernel_rfl) (by kernel_rfl) (by kernel_rfl) (fun _ _ _ h => h) (Or.inl ⟨by rfl, ?_⟩) (sK _ La0.out Lb0.out) ?_
              rotate_left
              · (intro wS hSw; (try dsimp only at hSw); go_simp; try with_reducible rfl)
              simp only [Act.put, List.getElem_toArray, List.getElem_cons_zero, List.getElem_cons_succ, List.setIfInBounds_toArray, List.set_cons_zero, List.set_cons_succ]
              refine wpAnyH_take (i := 10) (v := ?_) rfl (by kernel_rfl) (by kernel_rfl) (by kernel_rfl) (fun _ _ _ h => h) (Or.inl ⟨by rfl, ?_⟩) (sK _ La0.out Lb0.out) ?_
              rotate_left
              · (intro wS hSw; (try dsimp only at hSw); go_simp; try with_reducible rfl)
              simp only [Act.put, List.getElem_toArray, List.getElem_cons_zero, List.getElem_cons_succ, List.setIfInBounds_toArray, List.set_cons_zero, List.set_cons_succ]
              refine wpAnyH_take (i := 12) (v := ?_) rfl (by kernel_rfl) (by kernel_rfl) (by kernel_rfl) (fun _ _ _ h => h) (Or.inl ⟨by rfl, ?_⟩) (sK _ La0.out Lb0.out) ?_
              rotate_left
              · (intro wS hSw; (try dsimp only at hSw); go_simp; try with_reducible rfl)
              simp only [Act.put, List.getElem_toArray, List.getElem_cons_zero, List.getElem_cons_succ, List.setIfInBounds_toArray, List.set_cons_zero, List.set_cons_succ]
              refine wpAnyH_take (i := 13) (v := ?_) rfl (by kernel_rfl) (by kernel_rfl) (by kernel_rfl) (fun _ _ _ h => h) (Or.inl ⟨by rfl, ?_⟩) (sK _ La0.out Lb0.out) ?_
              rotate_left
              · (intro wS hSw; (try dsimp only at hSw); go_simp; try with_reducible rfl)
              simp only [Act.put, List.getElem_toArray, List.getElem_cons_zero, List.getElem_cons_succ, List.setIfInBounds_toArray, List.set_cons_zero, List.set_cons_succ]
              refine wpAnyH_ready (rs := [11]) (by kernel_rfl) (by simp) ?_
              refine AllReadyH.cons rfl (fun K hK => ?_) AllReadyH.nil
              go_simp
              refine (KS.out _ E0.out).mono ?_
              rintro e r1 ⟨rfl, hb⟩
              have La1 := Lib.hid (Blk.next (w := V9.drew) La0.out hb)
              have Lb1 := Lib.hid (Blk.next (w := V9.drew) Lb0.out hb)
              have E1 := Lib.hid (E0.out.trans (hb.mono E0.out.size))
              clear hb
              go_wp2_with fail
              refine hK.out _ _ (sK _ La1.out Lb1.out) (fun hHeld => ?_)
              clear hK K hHeld
              try simp only [Act.put, List.getElem_toArray, List.getElem_cons_zero, List.getElem_cons_succ, List.setIfInBounds_toArray, List.set_cons_zero, List.set_cons_succ]
              refine wpAnyH_ready (rs := [14]) (by kernel_rfl) (by simp) ?_
              refine AllReadyH.cons rfl (fun K hK => ?_) AllReadyH.nil
              go_simp
              refine (KW.out _ E1.out).mono ?_
              rintro e r2 ⟨rfl, hb⟩
              have La2 := Lib.hid (Blk.next (w := r1) La1.out hb)
              have Lb2 := Lib.hid (Blk.next (w := r1) Lb1.out hb)
              have E2 := Lib.hid (E1.out.trans (hb.mono E1.out.size))
              clear hb
              go_wp2_with fail
              refine hK.out _ _ (sK _ La2.out Lb2.out) (fun hHeld => ?_)
              clear hK K hHeld
              try simp only [Act.put, List.getElem_toArray, List.getElem_cons_zero, List.getElem_cons_succ, List.setIfInBounds_toArray, List.set_cons_zero, List.set_cons_succ]
              refine wpAnyH_take (i := 15) (v := ?_) rfl (by kernel_rfl) (by kernel_rfl) (by kernel_rfl) (fun _ _ _ h => h) (Or.inl ⟨by rfl, ?_⟩) (sK _ La2.out Lb2.out) ?_
              rotate_left
              · (intro wS hSw; (try dsimp only at hSw); go_simp; try with_reducible rfl)
              simp only [Act.put, List.getElem_toArray, List.getElem_cons_zero, List.getElem_cons_succ, List.setIfInBounds_toArray, List.set_cons_zero, List.set_cons_succ]
              refine wpAnyH_take (i := 16) (v := ?_) rfl (by kernel_rfl) (by kernel_rfl) (by kernel_rfl) (fun _ _ _ h => h) (Or.inl ⟨by rfl, ?_⟩) (sK _ La2.out Lb2.out) ?_
              rotate_left
              · (intro wS hSw; (try dsimp only at hSw); go_simp; try with_reducible rfl)
              simp only [Act.put, List.getElem_toArray, List.getElem_cons_zero, List.getElem_cons_succ, List.setIfInBounds_toArray, List.set_cons_zero, List.set_cons_succ]
              refine wpAnyH_take (i := 17) (v := ?_) rfl (by kernel_rfl) (by kernel_rfl) (by kernel_rfl) (fun _ _ _ h => h) (Or.inl ⟨by rfl, ?_⟩) (sK _ La2.out Lb2.out) ?_
              rotate_left
              · (intro wS hSw; (try dsimp only at hSw); go_simp; try with_reducible rfl)
              simp only [Act.put, List.getElem_toArray, List.getElem_cons_zero, List.getElem_cons_succ, List.setIfInBounds_toArray, List.set_cons_zero, List.set_cons_succ]
              refine wpAnyH_take (i := 18) (v := ?_) rfl (by kernel_rfl) (by kernel_rfl) (by kernel_rfl) (fun _ _ _ h => h) (Or.inl ⟨by rfl, ?_⟩) (sK _ La2.out Lb2.out) ?_
              rotate_left
              · (intro wS hSw; (try dsimp only at hSw); go_simp; try with_reducible rfl)
              simp only [Act.put, List.getElem_toArray, List.getElem_cons_zero, List.getElem_cons_succ, List.setIfInBounds_toArray, List.set_cons_zero, List.set_cons_succ]
              refine wpAnyH_take (i := 19) (v := ?_) rfl (by kernel_rfl) (by kernel_rfl) (by kernel_rfl) (fun _ _ _ h => h) (Or.inl ⟨by rfl, ?_⟩) (sK _ La2.out Lb2.out) ?_
              rotate_left
              · (intro wS hSw; (try dsimp only at hSw); go_simp; try with_reducible rfl)
              simp only [Act.put, List.getElem_toArray, List.getElem_cons_zero, List.getElem_cons_succ, List.setIfInBounds_toArray, List.set_cons_zero, List.set_cons_succ]
              refine wpAnyH_ready (rs := [20]) (by kernel_rfl) (by simp) ?_
              refine AllReadyH.cons rfl (fun K hK => ?_) AllReadyH.nil
              go_simp
              refine (KZ.out _ E2.out).mono ?_
              rintro e r3 ⟨rfl, hb⟩
              have La3 := Lib.hid (Blk.next (w := r2) La2.out hb)
              have Lb3 := Lib.hid (Blk.next (w := r2) Lb2.out hb)
              have E3 := Lib.hid (E2.out.trans (hb.mono E2.out.size))
              clear hb
              go_wp2_with fail
              refine hK.out _ _ (sK _ La3.out Lb3.out) (fun hHeld => ?_)
              clear hK K hHeld
              try simp only [Act.put, List.getElem_toArray, List.getElem_cons_zero, List.getElem_cons_succ, List.setIfInBounds_toArray, List.set_cons_zero, List.set_cons_succ]
              refine wpAnyH_take (i := 21) (v := ?_) rfl (by kernel_rfl) (by kernel_rfl) (by kernel_rfl) (fun _ _ _ h => h) (Or.inl ⟨by rfl, ?_⟩) (sK _ La3.out Lb3.out) ?_
              rotate_left
              · (intro wS hSw; (try dsimp only at hSw); go_simp; try with_reducible rfl)
              simp only [Act.put, List.getElem_toArray, List.getElem_cons_zero, List.getElem_cons_succ, List.setIfInBounds_toArray, List.set_cons_zero, List.set_cons_succ]
              refine wpAnyH_take (i := 22) (v := ?_) rfl (by kernel_rfl) (by kernel_rfl) (by kernel_rfl) (fun _ _ _ h => h) (Or.inl ⟨by rfl, ?_⟩) (sK _ La3.out Lb3.out) ?_
              rotate_left
              · (intro wS hSw; (try dsimp only at hSw); go_simp; try with_reducible rfl)
              simp only [Act.put, List.getElem_toArray, List.getElem_cons_zero, List.getElem_cons_succ, List.setIfInBounds_toArray, List.set_cons_zero, List.set_cons_succ]
              refine wpAnyH_ready (rs := [23]) (by kernel_rfl) (by simp) ?_
              refine AllReadyH.cons rfl (fun K hK => ?_) AllReadyH.nil
              go_simp
              refine (alive_any _).mono ?_
              rintro e r4 ⟨rfl, hb⟩
              have La4 := Lib.hid (Blk.next (w := r3) La3.out hb)
              have Lb4 := Lib.hid (Blk.next (w := r3) Lb3.out hb)
              have E4 := Lib.hid (E3.out.trans (hb.mono E3.out.size))
              clear hb
              go_wp2_with fail
              refine hK.out _ _ (sK _ La4.out Lb4.out) (fun hHeld => ?_)
              clear hK K hHeld
              try simp only [Act.put, List.getElem_toArray, List.getElem_cons_zero, List.getElem_cons_succ, List.setIfInBounds_toArray, List.set_cons_zero, List.set_cons_succ]
              refine wpAnyH_take (i := 24) (v := ?_) rfl (by kernel_rfl) (by kernel_rfl) (by kernel_rfl) (fun _ _ _ h => h) (Or.inl ⟨by rfl, ?_⟩) (sK _ La4.out Lb4.out) ?_
              rotate_left
              · (intro wS hSw; (try dsimp only at hSw); go_simp; try with_reducible rfl)
              simp only [Act.put, List.getElem_toArray, List.getElem_cons_zero, List.getElem_cons_succ, List.setIfInBounds_toArray, List.set_cons_zero, List.set_cons_succ]
              refine wpAnyH_take (i := 25) (v := ?_) rfl (by kernel_rfl) (by kernel_rfl) (by kernel_rfl) (fun _ _ _ h => h) (Or.inl ⟨by rfl, ?_⟩) (sK _ La4.out Lb4.out) ?_
              rotate_left
              · (intro wS hSw; (try dsimp only at hSw); go_simp; try with_reducible rfl)
              simp only [Act.put, List.getElem_toArray, List.getElem_cons_zero, List.getElem_cons_succ, List.setIfInBounds_toArray, List.set_cons_zero, List.set_cons_succ]
              refine wpAnyH_done (by kernel_rfl) ?_ _
              go_wp2_with fail
              go_ret
              exact ⟨rfl, E4.out⟩
        · have hy2 : n ≤ n2 := by omega
          go_wp2_with fail
          go_loopw [10] (fun i wr => ∃ k : Nat, k ≤ n ∧ i = .int .i64 k ∧ ∃ q, wr = V.drewN q) (fun i _ => n - (intOf i).toNat)
          case atStart => exact ⟨0, by omega, rfl, _, rfl⟩
          case round =>
            obtain ⟨k, hk, rfl, q, rfl⟩ := hrel
            by_cases h : k < n
            · skip
              have h' : k < n ∧ k < n2 := by omega
              obtain ⟨b1, o1, rfl, _, h1⟩ := rdW_row HB.out (by omega)
              obtain ⟨b2, o2, rfl, _, h2⟩ := rdW_row HB2.out (by omega)
              have c1 : V.cell? ⟨b1, o1 + k, none⟩ = _ := h1 k h'.1
              have c2 : V.cell? ⟨b2, o2 + k, none⟩ = _ := h2 k h'.2
              have KB : ∀ q, RdW (V.drewN q) 4 shLeg _ n P ln cp v := fun q => RdW.kept OB.out (below_drewN EV.out q)
              have KB2 : ∀ q, RdW (V.drewN q) 4 shLeg _ n2 P2 ln2 cp2 v2 := fun q => RdW.kept OB2.out (below_drewN EV.out q)
              have hM : maxLen ≤ 9223372036854775807 := by decide
              have KC := Lib.hid (fun q => let l := rdW_at (KB q) h'.1; let m := rdW_at (KB2 q) h'.2; dlegs_eq (P k) (P2 k) (cp k) (cp2 k) (ln k) (ln2 k) (v k) (v2 k) (V.drewN q) l.2.2 m.2.2 (by omega) (by omega))
              have KD := Lib.hid (fun q => let l := rdW_at (KB q) h'.1; let m := rdW_at (KB2 q) h'.2; legs_eq (P k) (P2 k) (cp k) (cp2 k) (ln k) (ln2 k) (v k) (v2 k) (V.drewN q) l.2.2 m.2.2 (by omega) (by omega))
              clear h1 h2 KB KB2 hM
              obtain ⟨p1, hp1⟩ : ∃ x, P k = x := ⟨_, rfl⟩
              obtain ⟨p2, hp2⟩ : ∃ x, P2 k = x := ⟨_, rfl⟩
              obtain ⟨l1, hl1⟩ : ∃ x, ln k = x := ⟨_, rfl⟩
              obtain ⟨l2, hl2⟩ : ∃ x, ln2 k = x := ⟨_, rfl⟩
              obtain ⟨f1, hd1⟩ : ∃ x, cp k = x := ⟨_, rfl⟩
              obtain ⟨f2, hf2⟩ : ∃ x, cp2 k = x := ⟨_, rfl⟩
              obtain ⟨r, hr⟩ : ∃ x, sameV 4 l1 l2 (v k) (v2 k) = x := ⟨_, rfl⟩
              rw [hp1, hl1, hd1] at c1
              rw [hp2, hl2, hf2] at c2
              rw [hp1, hl1, hd1, hp2, hl2, hf2, hr] at KC KD
              have hrr : (r != r) = false := by simp
              clear hp1 hp2 hl1 hl2 hd1 hf2 hr
              go_wp2_with fail
              have sK : ∀ X : World, (∀ a, X.cell? a = V.cell? a) → (fun X : World => X.cell? ⟨g, 1, none⟩ = some (.slice (some ⟨b1, o1, none⟩) n d) ∧ X.cell? ⟨g + 1, 1, none⟩ = some (.slice (some ⟨b2, o2, none⟩) n2 d2) ∧ X.cell? ⟨b1, o1 + k, none⟩ = some (.slice p1 l1 f1) ∧ X.cell? ⟨b2, o2 + k, none⟩ = some (.slice p2 l2 f2)) X := fun X h => ⟨(h _).trans k1, (h _).trans k4, (h _).trans c1, (h _).trans c2⟩
              clear k1 k4 c1 c2
              refine wp_region_held_drew (S := (fun X : World => X.cell? ⟨g, 1, none⟩ = some (.slice (some ⟨b1, o1, none⟩) n d) ∧ X.cell? ⟨g + 1, 1, none⟩ = some (.slice (some ⟨b2, o2, none⟩) n2 d2) ∧ X.cell? ⟨b1, o1 + k, none⟩ = some (.slice p1 l1 f1) ∧ X.cell? ⟨b2, o2 + k, none⟩ = some (.slice p2 l2 f2))) (by kernel_rfl) (sK _ (fun _ => rfl)) (fun hHeld => ?_)
              clear hHeld
              refine wpAnyH_take (i := 0) (v := ?_) rfl (by kernel_rfl) (by kernel_rfl) (by kernel_rfl) (fun _ _ _ h => h) (Or.inl ⟨by rfl, ?_⟩) (sK _ (fun _ => rfl)) ?_
              rotate_left
              · (intro wS hSw; (try dsimp only at hSw); go_simp; try with_reducible rfl)
              simp only [Act.put, List.getElem_toArray, List.getElem_cons_zero, List.getElem_cons_succ, List.setIfInBounds_toArray, List.set_cons_zero, List.set_cons_succ]
              refine wpAnyH_take (i := 1) (v := ?_) rfl (by kernel_rfl) (by kernel_rfl) (by kernel_rfl) (fun _ _ _ h => h) (Or.inl ⟨by rfl, ?_⟩) (sK _ (fun _ => rfl)) ?_
              rotate_left
              · (intro wS hSw; (try dsimp only at hSw); go_simp; try with_reducible rfl)
              simp only [Act.put, List.getElem_toArray, List.getElem_cons_zero, List.getElem_cons_succ, List.setIfInBounds_toArray, List.set_cons_zero, List.set_cons_succ]
              refine wpAnyH_take (i := 2) (v := ?_) rfl (by kernel_rfl) (by kernel_rfl) (by kernel_rfl) (fun _ _ _ h => h) (Or.inl ⟨by rfl, ?_⟩) (sK _ (fun _ => rfl)) ?_
              rotate_left
              · (intro wS hSw; (try dsimp only at hSw); go_simp; try with_reducible rfl)
              simp only [Act.put, List.getElem_toArray, List.getElem_cons_zero, List.getElem_cons_succ, List.setIfInBounds_toArray, List.set_cons_zero, List.set_cons_succ]
              refine wpAnyH_take (i := 3) (v := ?_) rfl (by kernel_rfl) (by kernel_rfl) (by kernel_rfl) (fun _ _ _ h => h) (Or.inl ⟨by rfl, ?_⟩) (sK _ (fun _ => rfl)) ?_
              rotate_left
              · (intro wS hSw; (try dsimp only at hSw); go_simp; try with_reducible rfl)
              simp only [Act.put, List.getElem_toArray, List.getElem_cons_zero, List.getElem_cons_succ, List.setIfInBounds_toArray, List.set_cons_zero, List.set_cons_succ]
              refine wpAnyH_take (i := 4) (v := ?_) rfl (by kernel_rfl) (by kernel_rfl) (by kernel_rfl) (fun _ _ _ h => h) (Or.inl ⟨by rfl, ?_⟩) (sK _ (fun _ => rfl)) ?_
              rotate_left
              · (intro wS hSw; (try dsimp only at hSw); go_simp; try with_reducible rfl)
              simp only [Act.put, List.getElem_toArray, List.getElem_cons_zero, List.getElem_cons_succ, List.setIfInBounds_toArray, List.set_cons_zero, List.set_cons_succ]
              refine wpAnyH_take (i := 5) (v := ?_) rfl (by kernel_rfl) (by kernel_rfl) (by kernel_rfl) (fun _ _ _ h => h) (Or.inl ⟨by rfl, ?_⟩) (sK _ (fun _ => rfl)) ?_
              rotate_left
              · (intro wS hSw; (try dsimp only at hSw); go_simp; try with_reducible rfl)
              simp only [Act.put, List.getElem_toArray, List.getElem_cons_zero, List.getElem_cons_succ, List.setIfInBounds_toArray, List.set_cons_zero, List.set_cons_succ]
              refine wpAnyH_take (i := 6) (v := ?_) rfl (by kernel_rfl) (by kernel_rfl) (by kernel_rfl) (fun _ _ _ h => h) (Or.inl ⟨by rfl, ?_⟩) (sK _ (fun _ => rfl)) ?_
              rotate_left
              · (intro wS hSw; (try dsimp only at hSw); go_simp; try with_reducible rfl)
              simp only [Act.put, List.getElem_toArray, List.getElem_cons_zero, List.getElem_cons_succ, List.setIfInBounds_toArray, List.set_cons_zero, List.set_cons_succ]
              refine wpAnyH_take (i := 7) (v := ?_) rfl (by kernel_rfl) (by kernel_rfl) (by kernel_rfl) (fun _ _ _ h => h) (Or.inl ⟨by rfl, ?_⟩) (sK _ (fun _ => rfl)) ?_
              rotate_left
              · (intro wS hSw; (try dsimp only at hSw); go_simp; try with_reducible rfl)
              simp only [Act.put, List.getElem_toArray, List.getElem_cons_zero, List.getElem_cons_succ, List.setIfInBounds_toArray, List.set_cons_zero, List.set_cons_succ]
              refine wpAnyH_take (i := 8) (v := ?_) rfl (by kernel_rfl) (by kernel_rfl) (by kernel_rfl) (fun _ _ _ h => h) (Or.inl ⟨by rfl, ?_⟩) (sK _ (fun _ => rfl)) ?_
              rotate_left
              · (intro wS hSw; (try dsimp only at hSw); go_simp; try with_reducible rfl)
              simp only [Act.put, List.getElem_toArray, List.getElem_cons_zero, List.getElem_cons_succ, List.setIfInBounds_toArray, List.set_cons_zero, List.set_cons_succ]
              refine wpAnyH_take (i := 9) (v := ?_) rfl (by kernel_rfl) (by kernel_rfl) (by kernel_rfl) (fun _ _ _ h => h) (Or.inl ⟨by rfl, ?_⟩) (sK _ (fun _ => rfl)) ?_
              rotate_left
              · (intro wS hSw; (try dsimp only at hSw); go_simp; try with_reducible rfl)
              simp only [Act.put, List.getElem_toArray, List.getElem_cons_zero, List.getElem_cons_succ, List.setIfInBounds_toArray, List.set_cons_zero, List.set_cons_succ]
              refine wpAnyH_take (i := 11) (v := ?_) rfl (by kernel_rfl) (by kernel_rfl) (by kernel_rfl) (fun _ _ _ h => h) (Or.inl ⟨by rfl, ?_⟩) (sK _ (fun _ => rfl)) ?_
              rotate_left
              · (intro wS hSw; (try dsimp only at hSw); go_simp; try with_reducible rfl)
              simp only [Act.put, List.getElem_toArray, List.getElem_cons_zero, List.getElem_cons_succ, List.setIfInBounds_toArray, List.set_cons_zero, List.set_cons_succ]
              refine wpAnyH_take (i := 12) (v := ?_) rfl (by kernel_rfl) (by kernel_rfl) (by kernel_rfl) (fun _ _ _ h => h) (Or.inl ⟨by rfl, ?_⟩) (sK _ (fun _ => rfl)) ?_
              rotate_left
              · (intro wS hSw; (try dsimp only at hSw); go_simp; try with_reducible rfl)
              simp only [Act.put, List.getElem_toArray, List.getElem_cons_zero, List.getElem_cons_succ, List.setIfInBounds_toArray, List.set_cons_zero, List.set_cons_succ]
              refine wpAnyH_take (i := 13) (v := ?_) rfl (by kernel_rfl) (by kernel_rfl) (by kernel_rfl) (fun _ _ _ h => h) (Or.inl ⟨by rfl, ?_⟩) (sK _ (fun _ => rfl)) ?_
              rotate_left
              · (intro wS hSw; (try dsimp only at hSw); go_simp; try with_reducible rfl)
              simp only [Act.put, List.getElem_toArray, List.getElem_cons_zero, List.getElem_cons_succ, List.setIfInBounds_toArray, List.set_cons_zero, List.set_cons_succ]
              refine wpAnyH_take (i := 14) (v := ?_) rfl (by kernel_rfl) (by kernel_rfl) (by kernel_rfl) (fun _ _ _ h => h) (Or.inl ⟨by rfl, ?_⟩) (sK _ (fun _ => rfl)) ?_
              rotate_left
              · (intro wS hSw; (try dsimp only at hSw); go_simp; try with_reducible rfl)
              simp only [Act.put, List.getElem_toArray, List.getElem_cons_zero, List.getElem_cons_succ, List.setIfInBounds_toArray, List.set_cons_zero, List.set_cons_succ]
              refine wpAnyH_take (i := 15) (v := ?_) rfl (by kernel_rfl) (by kernel_rfl) (by kernel_rfl) (fun _ _ _ h => h) (Or.inl ⟨by rfl, ?_⟩) (sK _ (fun _ => rfl)) ?_
              rotate_left
              · (intro wS hSw; (try dsimp only at hSw); go_simp; try with_reducible rfl)
              simp only [Act.put, List.getElem_toArray, List.getElem_cons_zero, List.getElem_cons_succ, List.setIfInBounds_toArray, List.set_cons_zero, List.set_cons_succ]
              refine wpAnyH_take (i := 16) (v := ?_) rfl (by kernel_rfl) (by kernel_rfl) (by kernel_rfl) (fun _ _ _ h => h) (Or.inl ⟨by rfl, ?_⟩) (sK _ (fun _ => rfl)) ?_
              rotate_left
              · (intro wS hSw; (try dsimp only at hSw); go_simp; try with_reducible rfl)
              simp only [Act.put, List.getElem_toArray, List.getElem_cons_zero, List.getElem_cons_succ, List.setIfInBounds_toArray, List.set_cons_zero, List.set_cons_succ]
              refine wpAnyH_take (i := 17) (v := ?_) rfl (by kernel_rfl) (by kernel_rfl) (by kernel_rfl) (fun _ _ _ h => h) (Or.inl ⟨by rfl, ?_⟩) (sK _ (fun _ => rfl)) ?_
              rotate_left
              · (intro wS hSw; (try dsimp only at hSw); go_simp; try with_reducible rfl)
              simp only [Act.put, List.getElem_toArray, List.getElem_cons_zero, List.getElem_cons_succ, List.setIfInBounds_toArray, List.set_cons_zero, List.set_cons_succ]
              refine wpAnyH_take (i := 18) (v := ?_) rfl (by kernel_rfl) (by kernel_rfl) (by kernel_rfl) (fun _ _ _ h => h) (Or.inl ⟨by rfl, ?_⟩) (sK _ (fun _ => rfl)) ?_
              rotate_left
              · (intro wS hSw; (try dsimp only at hSw); go_simp; try with_reducible rfl)
              simp only [Act.put, List.getElem_toArray, List.getElem_cons_zero, List.getElem_cons_succ, List.setIfInBounds_toArray, List.set_cons_zero, List.set_cons_succ]
              refine wpAnyH_take (i := 19) (v := ?_) rfl (by kernel_rfl) (by kernel_rfl) (by kernel_rfl) (fun _ _ _ h => h) (Or.inl ⟨by rfl, ?_⟩) (sK _ (fun _ => rfl)) ?_
              rotate_left
              · (intro wS hSw; (try dsimp only at hSw); go_simp; try with_reducible rfl)
              simp only [Act.put, List.getElem_toArray, List.getElem_cons_zero, List.getElem_cons_succ, List.setIfInBounds_toArray, List.set_cons_zero, List.set_cons_succ]
              refine wpAnyH_take (i := 20) (v := ?_) rfl (by kernel_rfl) (by kernel_rfl) (by kernel_rfl) (fun _ _ _ h => h) (Or.inl ⟨by rfl, ?_⟩) (sK _ (fun _ => rfl)) ?_
              rotate_left
              · (intro wS hSw; (try dsimp only at hSw); go_simp; try with_reducible rfl)
              simp only [Act.put, List.getElem_toArray, List.getElem_cons_zero, List.getElem_cons_succ, List.setIfInBounds_toArray, List.set_cons_zero, List.set_cons_succ]
              refine wpAnyH_ready (rs := [10]) (by kernel_rfl) (by simp) ?_
              refine AllReadyH.cons rfl (fun K hK => ?_) AllReadyH.nil
              go_simp
              refine (KC.out (q + 1)).mono ?_
              rintro e r1 ⟨rfl, x1, rfl⟩
              go_wp2_with fail
              refine hK.out _ _ (sK _ (fun _ => rfl)) (fun hHeld => ?_)
              clear hK K hHeld
              try simp only [Act.put, List.getElem_toArray, List.getElem_cons_zero, List.getElem_cons_succ, List.setIfInBounds_toArray, List.set_cons_zero, List.set_cons_succ]
              refine wpAnyH_ready (rs := [21]) (by kernel_rfl) (by simp) ?_
              refine AllReadyH.cons rfl (fun K hK => ?_) AllReadyH.nil
              go_simp
              refine (KD.out (q + 1 + x1)).mono ?_
              rintro e r1 ⟨rfl, x2, rfl⟩
              go_wp2_with fail
              refine hK.out _ _ (sK _ (fun _ => rfl)) (fun hHeld => ?_)
              clear hK K hHeld
              try simp only [Act.put, List.getElem_toArray, List.getElem_cons_zero, List.getElem_cons_succ, List.setIfInBounds_toArray, List.set_cons_zero, List.set_cons_succ]
              refine wpAnyH_take (i := 22) (v := ?_) rfl (by kernel_rfl) (by kernel_rfl) (by kernel_rfl) (fun _ _ _ h => h) (Or.inl ⟨by rfl, ?_⟩) (sK _ (fun _ => rfl)) ?_
              rotate_left
              · (intro wS hSw; (try dsimp only at hSw); go_simp; try with_reducible rfl)
              simp only [Act.put, List.getElem_toArray, List.getElem_cons_zero, List.getElem_cons_succ, List.setIfInBounds_toArray, List.set_cons_zero, List.set_cons_succ]
              refine wpAnyH_done (by kernel_rfl) ?_ _
              go_wp2_with fail
              go_roundw
              case rel => exact ⟨k + 1, by omega, by go_num, _, by first | rfl | exact World.drewN_drewN ..⟩
              case measure => simp [intOf]; omega
            · skip
              go_wp2_with fail
              clear k0 k1 k2 k3 k4 k5
              have E9 := below_drewN EV.out q
              have B9 := Blk.next (w := V) LA2.out (below_drewN (Below.refl _ _) q)
              have C9 := Blk.next (w := V) LB2.out (below_drewN (Below.refl _ _) q)
              obtain ⟨V9, hV9⟩ : ∃ X, V.drewN q = X := ⟨_, rfl⟩
              rw [hV9] at E9 B9 C9 ⊢
              clear hV9
              have EE := Lib.hid E9
              have Ha := Lib.hid B9
              have Hb := Lib.hid C9
              clear E9 B9 C9
              obtain ⟨rr, hrr⟩ : ∃ r, sameL u u2 nt nt2 z z2 n n2 ln ln2 v v2 = r := ⟨_, rfl⟩
              have KS : ∀ X, Below w.heap.size w X → _ := fun X hX => dsame_any T T2 A A2 ct ct2 d d2 nt nt2 n n2 u u2 z z2 P P2 ln ln2 cp cp2 v v2 X (RdZ.kept OA.out hX) (RdZ.kept OA2.out hX) (RdW.kept OB.out hX) (RdW.kept OB2.out hX) (by omega) (by omega) (by omega) (by omega)
              have KW : ∀ X, Below w.heap.size w X → _ := fun X hX => wsame_any T T2 A A2 ct ct2 d d2 nt nt2 n n2 u u2 z z2 P P2 ln ln2 cp cp2 v v2 X (RdZ.kept OA.out hX) (RdZ.kept OA2.out hX) (RdW.kept OB.out hX) (RdW.kept OB2.out hX) (by omega) (by omega) (by omega) (by omega)
              have KZ : ∀ X, Below w.heap.size w X → _ := fun X hX => dsame_any T T A A ct ct d d nt nt n n u u z z P P ln ln cp cp v v X (RdZ.kept OA.out hX) (RdZ.kept OA.out hX) (RdW.kept OB.out hX) (RdW.kept OB.out hX) (by omega) (by omega) (by omega) (by omega)
              rw [hrr] at KS KW
              rw [sameL_self] at KZ
              have hr1 : (rr == rr) = true := by simp
              have hc1 : (c == c) = true := by simp
              have hz1 : ((i : Int) == (i : Int)) = true := by simp
              clear hrr
              have KS := Lib.hid KS; have KW := Lib.hid KW; have KZ := Lib.hid KZ
              have ka0 : V9.cell? ⟨g, 0, none⟩ = some (.slice T nt ct) := Ha.out.cell 0
              have ka1 : V9.cell? ⟨g, 1, none⟩ = some (.slice A n d) := Ha.out.cell 1
              have ka2 : V9.cell? ⟨g, 2, none⟩ = some (.int .i64 u) := Ha.out.cell 2
              have kb0 : V9.cell? ⟨g + 1, 0, none⟩ = some (.slice T2 nt2 ct2) := Hb.out.cell 0
              have kb1 : V9.cell? ⟨g + 1, 1, none⟩ = some (.slice A2 n2 d2) := Hb.out.cell 1
              have kb2 : V9.cell? ⟨g + 1, 2, none⟩ = some (.int .i64 u2) := Hb.out.cell 2
              go_wp2_with fail
              have sK : ∀ X, Blk X (g) 25 #[.slice T nt ct, .slice A n d, .int .i64 u] → Blk X (g + 1) 25 #[.slice T2 nt2 ct2, .slice A2 n2 d2, .int .i64 u2] → (fun X => X.cell? ⟨g, 0, none⟩ = some (.slice T nt ct) ∧ X.cell? ⟨g, 1, none⟩ = some (.slice A n d) ∧ X.cell? ⟨g, 2, none⟩ = some (.int .i64 u) ∧ X.cell? ⟨g + 1, 0, none⟩ = some (.slice T2 nt2 ct2) ∧ X.cell? ⟨g + 1, 1, none⟩ = some (.slice A2 n2 d2) ∧ X.cell? ⟨g + 1, 2, none⟩ = some (.int .i64 u2)) X := fun X ha hb => ⟨ha.cell 0, ha.cell 1, ha.cell 2, hb.cell 0, hb.cell 1, hb.cell 2⟩
              have La0 := Lib.hid (Ha.out.drew)
              have Lb0 := Lib.hid (Hb.out.drew)
              have E0 := Lib.hid (EE.out.drew)
              clear ka0 ka1 ka2 kb0 kb1 kb2
              refine wp_region_held_drew (S := (fun X => X.cell? ⟨g, 0, none⟩ = some (.slice T nt ct) ∧ X.cell? ⟨g, 1, none⟩ = some (.slice A n d) ∧ X.cell? ⟨g, 2, none⟩ = some (.int .i64 u) ∧ X.cell? ⟨g + 1, 0, none⟩ = some (.slice T2 nt2 ct2) ∧ X.cell? ⟨g + 1, 1, none⟩ = some (.slice A2 n2 d2) ∧ X.cell? ⟨g + 1, 2, none⟩ = some (.int .i64 u2))) (by kernel_rfl) (sK _ La0.out Lb0.out) (fun hHeld => ?_)
              clear hHeld
              refine wpAnyH_take (i := 0) (v := ?_) rfl (by kernel_rfl) (by kernel_rfl) (by kernel_rfl) (fun _ _ _ h => h) (Or.inl ⟨by rfl, ?_⟩) (sK _ La0.out Lb0.out) ?_
              rotate_left
              · (intro wS hSw; (try dsimp only at hSw); go_simp; try with_reducible rfl)
              simp only [Act.put, List.getElem_toArray, List.getElem_cons_zero, List.getElem_cons_succ, List.setIfInBounds_toArray, List.set_cons_zero, List.set_cons_succ]
              refine wpAnyH_take (i := 1) (v := ?_) rfl (by kernel_rfl) (by kernel_rfl) (by kernel_rfl) (fun _ _ _ h => h) (Or.inl ⟨by rfl, ?_⟩) (sK _ La0.out Lb0.out) ?_
              rotate_left
              · (intro wS hSw; (try dsimp only at hSw); go_simp; try with_reducible rfl)
              simp only [Act.put, List.getElem_toArray, List.getElem_cons_zero, List.getElem_cons_succ, List.setIfInBounds_toArray, List.set_cons_zero, List.set_cons_succ]
              refine wpAnyH_take (i := 2) (v := ?_) rfl (by kernel_rfl) (by kernel_rfl) (by kernel_rfl) (fun _ _ _ h => h) (Or.inl ⟨by rfl, ?_⟩) (sK _ La0.out Lb0.out) ?_
              rotate_left
              · (intro wS hSw; (try dsimp only at hSw); go_simp; try with_reducible rfl)
              simp only [Act.put, List.getElem_toArray, List.getElem_cons_zero, List.getElem_cons_succ, List.setIfInBounds_toArray, List.set_cons_zero, List.set_cons_succ]
              refine wpAnyH_take (i := 3) (v := ?_) rfl (by kernel_rfl) (by kernel_rfl) (by kernel_rfl) (fun _ _ _ h => h) (Or.inl ⟨by rfl, ?_⟩) (sK _ La0.out Lb0.out) ?_
              rotate_left
              · (intro wS hSw; (try dsimp only at hSw); go_simp; try with_reducible rfl)
              simp only [Act.put, List.getElem_toArray, List.getElem_cons_zero, List.getElem_cons_succ, List.setIfInBounds_toArray, List.set_cons_zero, List.set_cons_succ]
              refine wpAnyH_take (i := 4) (v := ?_) rfl (by kernel_rfl) (by kernel_rfl) (by kernel_rfl) (fun _ _ _ h => h) (Or.inl ⟨by rfl, ?_⟩) (sK _ La0.out Lb0.out) ?_
              rotate_left
              · (intro wS hSw; (try dsimp only at hSw); go_simp; try with_reducible rfl)
              simp only [Act.put, List.getElem_toArray, List.getElem_cons_zero, List.getElem_cons_succ, List.setIfInBounds_toArray, List.set_cons_zero, List.set_cons_succ]
              refine wpAnyH_take (i := 5) (v := ?_) rfl (by kernel_rfl) (by kernel_rfl) (by kernel_rfl) (fun _ _ _ h => h) (Or.inl ⟨by rfl, ?_⟩) (sK _ La0.out Lb0.out) ?_
              rotate_left
              · (intro wS hSw; (try dsimp only at hSw); go_simp; try with_reducible rfl)
              simp only [Act.put, List.getElem_toArray, List.getElem_cons_zero, List.getElem_cons_succ, List.setIfInBounds_toArray, List.set_cons_zero, List.set_cons_succ]
              refine wpAnyH_take (i := 6) (v := ?_) rfl (by kernel_rfl) (by kernel_rfl) (by kernel_rfl) (fun _ _ _ h => h) (Or.inl ⟨by rfl, ?_⟩) (sK _ La0.out Lb0.out) ?_
              rotate_left
              · (intro wS hSw; (try dsimp only at hSw); go_simp; try with_reducible rfl)
              simp only [Act.put, List.getElem_toArray, List.getElem_cons_zero, List.getElem_cons_succ, List.setIfInBounds_toArray, List.set_cons_zero, List.set_cons_succ]
              refine wpAnyH_take (i := 7) (v := ?_) rfl (by kernel_rfl) (by kernel_rfl) (by kernel_rfl) (fun _ _ _ h => h) (Or.inl ⟨by rfl, ?_⟩) (sK _ La0.out Lb0.out) ?_
              rotate_left
              · (intro wS hSw; (try dsimp only at hSw); go_simp; try with_reducible rfl)
              simp only [Act.put, List.getElem_toArray, List.getElem_cons_zero, List.getElem_cons_succ, List.setIfInBounds_toArray, List.set_cons_zero, List.set_cons_succ]
              refine wpAnyH_take (i := 8) (v := ?_) rfl (by kernel_rfl) (by kernel_rfl) (by kernel_rfl) (fun _ _ _ h => h) (Or.inl ⟨by rfl, ?_⟩) (sK _ La0.out Lb0.out) ?_
              rotate_left
              · (intro wS hSw; (try dsimp only at hSw); go_simp; try with_reducible rfl)
              simp only [Act.put, List.getElem_toArray, List.getElem_cons_zero, List.getElem_cons_succ, List.setIfInBounds_toArray, List.set_cons_zero, List.set_cons_succ]
              refine wpAnyH_take (i := 9) (v := ?_) rfl (by kernel_rfl) (by kernel_rfl) (by kernel_rfl) (fun _ _ _ h => h) (Or.inl ⟨by rfl, ?_⟩) (sK _ La0.out Lb0.out) ?_
              rotate_left
              · (intro wS hSw; (try dsimp only at hSw); go_simp; try with_reducible rfl)
              simp only [Act.put, List.getElem_toArray, List.getElem_cons_zero, List.getElem_cons_succ, List.setIfInBounds_toArray, List.set_cons_zero, List.set_cons_succ]
              refine wpAnyH_take (i := 10) (v := ?_) rfl (by kernel_rfl) (by kernel_rfl) (by kernel_rfl) (fun _ _ _ h => h) (Or.inl ⟨by rfl, ?_⟩) (sK _ La0.out Lb0.out) ?_
              rotate_left
              · (intro wS hSw; (try dsimp only at hSw); go_simp; try with_reducible rfl)
              simp only [Act.put, List.getElem_toArray, List.getElem_cons_zero, List.getElem_cons_succ, List.setIfInBounds_toArray, List.set_cons_zero, List.set_cons_succ]
              refine wpAnyH_take (i := 12) (v := ?_) rfl (by kernel_rfl) (by kernel_rfl) (by kernel_rfl) (fun _ _ _ h => h) (Or.inl ⟨by rfl, ?_⟩) (sK _ La0.out Lb0.out) ?_
              rotate_left
              · (intro wS hSw; (try dsimp only at hSw); go_simp; try with_reducible rfl)
              simp only [Act.put, List.getElem_toArray, List.getElem_cons_zero, List.getElem_cons_succ, List.setIfInBounds_toArray, List.set_cons_zero, List.set_cons_succ]
              refine wpAnyH_take (i := 13) (v := ?_) rfl (by kernel_rfl) (by kernel_rfl) (by kernel_rfl) (fun _ _ _ h => h) (Or.inl ⟨by rfl, ?_⟩) (sK _ La0.out Lb0.out) ?_
              rotate_left
              · (intro wS hSw; (try dsimp only at hSw); go_simp; try with_reducible rfl)
              simp only [Act.put, List.getElem_toArray, List.getElem_cons_zero, List.getElem_cons_succ, List.setIfInBounds_toArray, List.set_cons_zero, List.set_cons_succ]
              refine wpAnyH_ready (rs := [11]) (by kernel_rfl) (by simp) ?_
              refine AllReadyH.cons rfl (fun K hK => ?_) AllReadyH.nil
              go_simp
              refine (KS.out _ E0.out).mono ?_
              rintro e r1 ⟨rfl, hb⟩
              have La1 := Lib.hid (Blk.next (w := V9.drew) La0.out hb)
              have Lb1 := Lib.hid (Blk.next (w := V9.drew) Lb0.out hb)
              have E1 := Lib.hid (E0.out.trans (hb.mono E0.out.size))
              clear hb
              go_wp2_with fail
              refine hK.out _ _ (sK _ La1.out Lb1.out) (fun hHeld => ?_)
              clear hK K hHeld
              try simp only [Act.put, List.getElem_toArray, List.getElem_cons_zero, List.getElem_cons_succ, List.setIfInBounds_toArray, List.set_cons_zero, List.set_cons_succ]
              refine wpAnyH_ready (rs := [14]) (by kernel_rfl) (by simp) ?_
              refine AllReadyH.cons rfl (fun K hK => ?_) AllReadyH.nil
              go_simp
              refine (KW.out _ E1.out).mono ?_
              rintro e r2 ⟨rfl, hb⟩
              have La2 := Lib.hid (Blk.next (w := r1) La1.out hb)
              have Lb2 := Lib.hid (Blk.next (w := r1) Lb1.out hb)
              have E2 := Lib.hid (E1.out.trans (hb.mono E1.out.size))
              clear hb
              go_wp2_with fail
              refine hK.out _ _ (sK _ La2.out Lb2.out) (fun hHeld => ?_)
              clear hK K hHeld
              try simp only [Act.put, List.getElem_toArray, List.getElem_cons_zero, List.getElem_cons_succ, List.setIfInBounds_toArray, List.set_cons_zero, List.set_cons_succ]
              refine wpAnyH_take (i := 15) (v := ?_) rfl (by kernel_rfl) (by kernel_rfl) (by kernel_rfl) (fun _ _ _ h => h) (Or.inl ⟨by rfl, ?_⟩) (sK _ La2.out Lb2.out) ?_
              rotate_left
              · (intro wS hSw; (try dsimp only at hSw); go_simp; try with_reducible rfl)
              simp only [Act.put, List.getElem_toArray, List.getElem_cons_zero, List.getElem_cons_succ, List.setIfInBounds_toArray, List.set_cons_zero, List.set_cons_succ]
              refine wpAnyH_take (i := 16) (v := ?_) rfl (by kernel_rfl) (by kernel_rfl) (by kernel_rfl) (fun _ _ _ h => h) (Or.inl ⟨by rfl, ?_⟩) (sK _ La2.out Lb2.out) ?_
              rotate_left
              · (intro wS hSw; (try dsimp only at hSw); go_simp; try with_reducible rfl)
              simp only [Act.put, List.getElem_toArray, List.getElem_cons_zero, List.getElem_cons_succ, List.setIfInBounds_toArray, List.set_cons_zero, List.set_cons_succ]
              refine wpAnyH_take (i := 17) (v := ?_) rfl (by kernel_rfl) (by kernel_rfl) (by kernel_rfl) (fun _ _ _ h => h) (Or.inl ⟨by rfl, ?_⟩) (sK _ La2.out Lb2.out) ?_
              rotate_left
              · (intro wS hSw; (try dsimp only at hSw); go_simp; try with_reducible rfl)
              simp only [Act.put, List.getElem_toArray, List.getElem_cons_zero, List.getElem_cons_succ, List.setIfInBounds_toArray, List.set_cons_zero, List.set_cons_succ]
              refine wpAnyH_take (i := 18) (v := ?_) rfl (by kernel_rfl) (by kernel_rfl) (by kernel_rfl) (fun _ _ _ h => h) (Or.inl ⟨by rfl, ?_⟩) (sK _ La2.out Lb2.out) ?_
              rotate_left
              · (intro wS hSw; (try dsimp only at hSw); go_simp; try with_reducible rfl)
              simp only [Act.put, List.getElem_toArray, List.getElem_cons_zero, List.getElem_cons_succ, List.setIfInBounds_toArray, List.set_cons_zero, List.set_cons_succ]
              refine wpAnyH_take (i := 19) (v := ?_) rfl (by kernel_rfl) (by kernel_rfl) (by kernel_rfl) (fun _ _ _ h => h) (Or.inl ⟨by rfl, ?_⟩) (sK _ La2.out Lb2.out) ?_
              rotate_left
              · (intro wS hSw; (try dsimp only at hSw); go_simp; try with_reducible rfl)
              simp only [Act.put, List.getElem_toArray, List.getElem_cons_zero, List.getElem_cons_succ, List.setIfInBounds_toArray, List.set_cons_zero, List.set_cons_succ]
              refine wpAnyH_ready (rs := [20]) (by kernel_rfl) (by simp) ?_
              refine AllReadyH.cons rfl (fun K hK => ?_) AllReadyH.nil
              go_simp
              refine (KZ.out _ E2.out).mono ?_
              rintro e r3 ⟨rfl, hb⟩
              have La3 := Lib.hid (Blk.next (w := r2) La2.out hb)
              have Lb3 := Lib.hid (Blk.next (w := r2) Lb2.out hb)
              have E3 := Lib.hid (E2.out.trans (hb.mono E2.out.size))
              clear hb
              go_wp2_with fail
              refine hK.out _ _ (sK _ La3.out Lb3.out) (fun hHeld => ?_)
              clear hK K hHeld
              try simp only [Act.put, List.getElem_toArray, List.getElem_cons_zero, List.getElem_cons_succ, List.setIfInBounds_toArray, List.set_cons_zero, List.set_cons_succ]
              refine wpAnyH_take (i := 21) (v := ?_) rfl (by kernel_rfl) (by kernel_rfl) (by kernel_rfl) (fun _ _ _ h => h) (Or.inl ⟨by rfl, ?_⟩) (sK _ La3.out Lb3.out) ?_
              rotate_left
              · (intro wS hSw; (try dsimp only at hSw); go_simp; try with_reducible rfl)
              simp only [Act.put, List.getElem_toArray, List.getElem_cons_zero, List.getElem_cons_succ, List.setIfInBounds_toArray, List.set_cons_zero, List.set_cons_succ]
              refine wpAnyH_take (i := 22) (v := ?_) rfl (by kernel_rfl) (by kernel_rfl) (by kernel_rfl) (fun _ _ _ h => h) (Or.inl ⟨by rfl, ?_⟩) (sK _ La3.out Lb3.out) ?_
              rotate_left
              · (intro wS hSw; (try dsimp only at hSw); go_simp; try with_reducible rfl)
              simp only [Act.put, List.getElem_toArray, List.getElem_cons_zero, List.getElem_cons_succ, List.setIfInBounds_toArray, List.set_cons_zero, List.set_cons_succ]
              refine wpAnyH_ready (rs := [23]) (by kernel_rfl) (by simp) ?_
              refine AllReadyH.cons rfl (fun K hK => ?_) AllReadyH.nil
              go_simp
              refine (alive_any _).mono ?_
              rintro e r4 ⟨rfl, hb⟩
              have La4 := Lib.hid (Blk.next (w := r3) La3.out hb)
              have Lb4 := Lib.hid (Blk.next (w := r3) Lb3.out hb)
              have E4 := Lib.hid (E3.out.trans (hb.mono E3.out.size))
              clear hb
              go_wp2_with fail
              refine hK.out _ _ (sK _ La4.out Lb4.out) (fun hHeld => ?_)
              clear hK K hHeld
              try simp only [Act.put, List.getElem_toArray, List.getElem_cons_zero, List.getElem_cons_succ, List.setIfInBounds_toArray, List.set_cons_zero, List.set_cons_succ]
              refine wpAnyH_take (i := 24) (v := ?_) rfl (by kernel_rfl) (by kernel_rfl) (by kernel_rfl) (fun _ _ _ h => h) (Or.inl ⟨by rfl, ?_⟩) (sK _ La4.out Lb4.out) ?_
              rotate_left
              · (intro wS hSw; (try dsimp only at hSw); go_simp; try with_reducible rfl)
              simp only [Act.put, List.getElem_toArray, List.getElem_cons_zero, List.getElem_cons_succ, List.setIfInBounds_toArray, List.set_cons_zero, List.set_cons_succ]
              refine wpAnyH_take (i := 25) (v := ?_) rfl (by kernel_rfl) (by kernel_rfl) (by kernel_rfl) (fun _ _ _ h => h) (Or.inl ⟨by rfl, ?_⟩) (sK _ La4.out Lb4.out) ?_
              rotate_left
              · (intro wS hSw; (try dsimp only at hSw); go_simp; try with_reducible rfl)
              simp only [Act.put, List.getElem_toArray, List.getElem_cons_zero, List.getElem_cons_succ, List.setIfInBounds_toArray, List.set_cons_zero, List.set_cons_succ]
              refine wpAnyH_done (by kernel_rfl) ?_ _
              go_wp2_with fail
              go_ret
              exact ⟨rfl, E4.out⟩
  · skip
    go_wp2_with fail
    go_loopw [5, 6, 7] (fun at' ap i wr => ∃ (p a : Nat) (bb : Bool), p ≤ nt ∧ Hid (PartFrom nt nt2 z z2 p a bb) ∧ at' = .int .i64 a ∧ ap = .bool bb ∧ i = .int .i64 ((p : Int) - 1) ∧ ∃ q, wr = V.drewN q) (fun at' ap i _ => (intOf i + 1).toNat)
    case atStart => exact ⟨nt, 0, false, by omega, Lib.hid (Or.inl ⟨rfl, rfl, fun k k1 k2 => absurd k2 (by omega)⟩), rfl, rfl, by first | rfl | go_num, 0, rfl⟩
    case round =>
      obtain ⟨p, a, bb, hp, hall, rfl, rfl, rfl, q, rfl⟩ := hrel
      by_cases h : 0 < p
      · obtain ⟨s, rfl⟩ : ∃ s, p = s + 1 := ⟨p - 1, by omega⟩
        have hi : ((s + 1 : Nat) : Int) - 1 = (s : Int) := by omega
        rw [hi]
        clear hi
        by_cases q1 : nt ≤ s
        · skip
          have HP : Hid (PartFrom nt nt2 z z2 s s true) := Lib.hid (pf_new hall.out (by omega) (by intro h; have := h.1; have := h.2.1; omega))
          clear hall
          have d1 : decide ((nt : Int) ≤ (s : Int)) = true := by simp; omega
          go_wp2_with fail
          have sK : ∀ X : World, (∀ a, X.cell? a = V.cell? a) → (fun X : World => X.cell? ⟨g, 0, none⟩ = some (.slice T nt ct)) X := fun X h => (h _).trans k0
          clear k0
          refine wp_region_held_drew (S := (fun X : World => X.cell? ⟨g, 0, none⟩ = some (.slice T nt ct))) (by kernel_rfl) (sK _ (fun _ => rfl)) (fun hHeld => ?_)
          clear hHeld
          refine wpAnyH_take (i := 0) (v := ?_) rfl (by kernel_rfl) (by kernel_rfl) (by kernel_rfl) (fun _ _ _ h => h) (Or.inl ⟨by rfl, ?_⟩) (sK _ (fun _ => rfl)) ?_
          rotate_left
          · (intro wS hSw; (try dsimp only at hSw); go_simp; try with_reducible rfl)
          simp only [Act.put, List.getElem_toArray, List.getElem_cons_zero, List.getElem_cons_succ, List.setIfInBounds_toArray, List.set_cons_zero, List.set_cons_succ]
          refine wpAnyH_take (i := 1) (v := ?_) rfl (by kernel_rfl) (by kernel_rfl) (by kernel_rfl) (fun _ _ _ h => h) (Or.inl ⟨by rfl, ?_⟩) (sK _ (fun _ => rfl)) ?_
          rotate_left
          · (intro wS hSw; (try dsimp only at hSw); go_simp; try with_reducible rfl)
          simp only [Act.put, List.getElem_toArray, List.getElem_cons_zero, List.getElem_cons_succ, List.setIfInBounds_toArray, List.set_cons_zero, List.set_cons_succ]
          refine wpAnyH_take (i := 2) (v := ?_) rfl (by kernel_rfl) (by kernel_rfl) (by kernel_rfl) (fun _ _ _ h => h) (Or.inl ⟨by rfl, ?_⟩) (sK _ (fun _ => rfl)) ?_
          rotate_left
          · (intro wS hSw; (try dsimp only at hSw); go_simp; try with_reducible rfl)
          simp only [Act.put, List.getElem_toArray, List.getElem_cons_zero, List.getElem_cons_succ, List.setIfInBounds_toArray, List.set_cons_zero, List.set_cons_succ]
          refine wpAnyH_take (i := 3) (v := ?_) rfl (by kernel_rfl) (by kernel_rfl) (by kernel_rfl) (fun _ _ _ h => h) (Or.inl ⟨by rfl, ?_⟩) (sK _ (fun _ => rfl)) ?_
          rotate_left
          · (intro wS hSw; (try dsimp only at hSw); go_simp; try with_reducible rfl)
          simp only [Act.put, List.getElem_toArray, List.getElem_cons_zero, List.getElem_cons_succ, List.setIfInBounds_toArray, List.set_cons_zero, List.set_cons_succ]
          refine wpAnyH_take (i := 4) (v := ?_) rfl (by kernel_rfl) (by kernel_rfl) (by kernel_rfl) (fun _ _ _ h => h) (Or.inl ⟨by rfl, ?_⟩) (sK _ (fun _ => rfl)) ?_
          rotate_left
          · (intro wS hSw; (try dsimp only at hSw); go_simp; try with_reducible rfl)
          simp only [Act.put, List.getElem_toArray, List.getElem_cons_zero, List.getElem_cons_succ, List.setIfInBounds_toArray, List.set_cons_zero, List.set_cons_succ]
          refine wpAnyH_take (i := 5) (v := ?_) rfl (by kernel_rfl) (by kernel_rfl) (by kernel_rfl) (fun _ _ _ h => h) (Or.inl ⟨by rfl, ?_⟩) (sK _ (fun _ => rfl)) ?_
          rotate_left
          · (intro wS hSw; (try dsimp only at hSw); go_simp; try with_reducible rfl)
          simp only [Act.put, List.getElem_toArray, List.getElem_cons_zero, List.getElem_cons_succ, List.setIfInBounds_toArray, List.set_cons_zero, List.set_cons_succ]
          refine wpAnyH_take (i := 6) (v := undef) rfl (by kernel_rfl) (by kernel_rfl) (by kernel_rfl) (fun _ _ _ h => h) (Or.inr ⟨by kernel_rfl, rfl⟩) (sK _ (fun _ => rfl)) ?_
          simp only [Act.put, List.getElem_toArray, List.getElem_cons_zero, List.getElem_cons_succ, List.setIfInBounds_toArray, List.set_cons_zero, List.set_cons_succ]
          refine wpAnyH_take (i := 7) (v := undef) rfl (by kernel_rfl) (by kernel_rfl) (by kernel_rfl) (fun _ _ _ h => h) (Or.inr ⟨by kernel_rfl, rfl⟩) (sK _ (fun _ => rfl)) ?_
          simp only [Act.put, List.getElem_toArray, List.getElem_cons_zero, List.getElem_cons_succ, List.setIfInBounds_toArray, List.set_cons_zero, List.set_cons_succ]
          refine wpAnyH_take (i := 8) (v := undef) rfl (by kernel_rfl) (by kernel_rfl) (by kernel_rfl) (fun _ _ _ h => h) (Or.inr ⟨by kernel_rfl, rfl⟩) (sK _ (fun _ => rfl)) ?_
          simp only [Act.put, List.getElem_toArray, List.getElem_cons_zero, List.getElem_cons_succ, List.setIfInBounds_toArray, List.set_cons_zero, List.set_cons_succ]
          refine wpAnyH_take (i := 9) (v := undef) rfl (by kernel_rfl) (by kernel_rfl) (by kernel_rfl) (fun _ _ _ h => h) (Or.inr ⟨by kernel_rfl, rfl⟩) (sK _ (fun _ => rfl)) ?_
          simp only [Act.put, List.getElem_toArray, List.getElem_cons_zero, List.getElem_cons_succ, List.setIfInBounds_toArray, List.set_cons_zero, List.set_cons_succ]
          refine wpAnyH_take (i := 10) (v := undef) rfl (by kernel_rfl) (by kernel_rfl) (by kernel_rfl) (fun _ _ _ h => h) (Or.inr ⟨by kernel_rfl, rfl⟩) (sK _ (fun _ => rfl)) ?_
          simp only [Act.put, List.getElem_toArray, List.getElem_cons_zero, List.getElem_cons_succ, List.setIfInBounds_toArray, List.set_cons_zero, List.set_cons_succ]
          refine wpAnyH_take (i := 11) (v := ?_) rfl (by kernel_rfl) (by kernel_rfl) (by kernel_rfl) (fun _ _ _ h => h) (Or.inl ⟨by rfl, ?_⟩) (sK _ (fun _ => rfl)) ?_
          rotate_left
          · (intro wS hSw; (try dsimp only at hSw); go_simp; try with_reducible rfl)
          simp only [Act.put, List.getElem_toArray, List.getElem_cons_zero, List.getElem_cons_succ, List.setIfInBounds_toArray, List.set_cons_zero, List.set_cons_succ]
          refine wpAnyH_take (i := 12) (v := ?_) rfl (by kernel_rfl) (by kernel_rfl) (by kernel_rfl) (fun _ _ _ h => h) (Or.inl ⟨by rfl, ?_⟩) (sK _ (fun _ => rfl)) ?_
          rotate_left
          · (intro wS hSw; (try dsimp only at hSw); go_simp; try with_reducible rfl)
          simp only [Act.put, List.getElem_toArray, List.getElem_cons_zero, List.getElem_cons_succ, List.setIfInBounds_toArray, List.set_cons_zero, List.set_cons_succ]
          refine wpAnyH_take (i := 13) (v := undef) rfl (by kernel_rfl) (by kernel_rfl) (by kernel_rfl) (fun _ _ _ h => h) (Or.inr ⟨by kernel_rfl, rfl⟩) (sK _ (fun _ => rfl)) ?_
          simp only [Act.put, List.getElem_toArray, List.getElem_cons_zero, List.getElem_cons_succ, List.setIfInBounds_toArray, List.set_cons_zero, List.set_cons_succ]
          refine wpAnyH_take (i := 14) (v := undef) rfl (by kernel_rfl) (by kernel_rfl) (by kernel_rfl) (fun _ _ _ h => h) (Or.inr ⟨by kernel_rfl, rfl⟩) (sK _ (fun _ => rfl)) ?_
          simp only [Act.put, List.getElem_toArray, List.getElem_cons_zero, List.getElem_cons_succ, List.setIfInBounds_toArray, List.set_cons_zero, List.set_cons_succ]
          refine wpAnyH_take (i := 15) (v := undef) rfl (by kernel_rfl) (by kernel_rfl) (by kernel_rfl) (fun _ _ _ h => h) (Or.inr ⟨by kernel_rfl, rfl⟩) (sK _ (fun _ => rfl)) ?_
          simp only [Act.put, List.getElem_toArray, List.getElem_cons_zero, List.getElem_cons_succ, List.setIfInBounds_toArray, List.set_cons_zero, List.set_cons_succ]
          refine wpAnyH_take (i := 16) (v := undef) rfl (by kernel_rfl) (by kernel_rfl) (by kernel_rfl) (fun _ _ _ h => h) (Or.inr ⟨by kernel_rfl, rfl⟩) (sK _ (fun _ => rfl)) ?_
          simp only [Act.put, List.getElem_toArray, List.getElem_cons_zero, List.getElem_cons_succ, List.setIfInBounds_toArray, List.set_cons_zero, List.set_cons_succ]
          refine wpAnyH_take (i := 17) (v := undef) rfl (by kernel_rfl) (by kernel_rfl) (by kernel_rfl) (fun _ _ _ h => h) (Or.inr ⟨by kernel_rfl, rfl⟩) (sK _ (fun _ => rfl)) ?_
          simp only [Act.put, List.getElem_toArray, List.getElem_cons_zero, List.getElem_cons_succ, List.setIfInBounds_toArray, List.set_cons_zero, List.set_cons_succ]
          refine wpAnyH_take (i := 18) (v := undef) rfl (by kernel_rfl) (by kernel_rfl) (by kernel_rfl) (fun _ _ _ h => h) (Or.inr ⟨by kernel_rfl, rfl⟩) (sK _ (fun _ => rfl)) ?_
          simp only [Act.put, List.getElem_toArray, List.getElem_cons_zero, List.getElem_cons_succ, List.setIfInBounds_toArray, List.set_cons_zero, List.set_cons_succ]
          refine wpAnyH_take (i := 19) (v := undef) rfl (by kernel_rfl) (by kernel_rfl) (by kernel_rfl) (fun _ _ _ h => h) (Or.inr ⟨by kernel_rfl, rfl⟩) (sK _ (fun _ => rfl)) ?_
          simp only [Act.put, List.getElem_toArray, List.getElem_cons_zero, List.getElem_cons_succ, List.setIfInBounds_toArray, List.set_cons_zero, List.set_cons_succ]
          refine wpAnyH_take (i := 20) (v := undef) rfl (by kernel_rfl) (by kernel_rfl) (by kernel_rfl) (fun _ _ _ h => h) (Or.inr ⟨by kernel_rfl, rfl⟩) (sK _ (fun _ => rfl)) ?_
          simp only [Act.put, List.getElem_toArray, List.getElem_cons_zero, List.getElem_cons_succ, List.setIfInBounds_toArray, List.set_cons_zero, List.set_cons_succ]
          refine wpAnyH_take (i := 21) (v := undef) rfl (by kernel_rfl) (by kernel_rfl) (by kernel_rfl) (fun _ _ _ h => h) (Or.inr ⟨by kernel_rfl, rfl⟩) (sK _ (fun _ => rfl)) ?_
          simp only [Act.put, List.getElem_toArray, List.getElem_cons_zero, List.getElem_cons_succ, List.setIfInBounds_toArray, List.set_cons_zero, List.set_cons_succ]
          refine wpAnyH_take (i := 22) (v := undef) rfl (by kernel_rfl) (by kernel_rfl) (by kernel_rfl) (fun _ _ _ h => h) (Or.inr ⟨by kernel_rfl, rfl⟩) (sK _ (fun _ => rfl)) ?_
          simp only [Act.put, List.getElem_toArray, List.getElem_cons_zero, List.getElem_cons_succ, List.setIfInBounds_toArray, List.set_cons_zero, List.set_cons_succ]
          refine wpAnyH_take (i := 23) (v := undef) rfl (by kernel_rfl) (by kernel_rfl) (by kernel_rfl) (fun _ _ _ h => h) (Or.inr ⟨by kernel_rfl, rfl⟩) (sK _ (fun _ => rfl)) ?_
          simp only [Act.put, List.getElem_toArray, List.getElem_cons_zero, List.getElem_cons_succ, List.setIfInBounds_toArray, List.set_cons_zero, List.set_cons_succ]
          refine wpAnyH_take (i := 24) (v := ?_) rfl (by kernel_rfl) (by kernel_rfl) (by kernel_rfl) (fun _ _ _ h => h) (Or.inl ⟨by rfl, ?_⟩) (sK _ (fun _ => rfl)) ?_
          rotate_left
          · (intro wS hSw; (try dsimp only at hSw); go_simp; try with_reducible rfl)
          simp only [Act.put, List.getElem_toArray, List.getElem_cons_zero, List.getElem_cons_succ, List.setIfInBounds_toArray, List.set_cons_zero, List.set_cons_succ]
          refine wpAnyH_done (by kernel_rfl) ?_ _
          go_wp2_with fail
          go_roundw
          case rel => exact ⟨s, s, true, by omega, HP, rfl, rfl, by go_num, _, rfl⟩
          case measure => simp [intOf]
        by_cases q2 : nt2 ≤ s
        · skip
          have HP : Hid (PartFrom nt nt2 z z2 s s true) := Lib.hid (pf_new hall.out (by omega) (by intro h; have := h.1; have := h.2.1; omega))
          clear hall
          have d1 : decide ((nt : Int) ≤ (s : Int)) = false := by simp; omega
          have d2 : decide ((nt2 : Int) ≤ (s : Int)) = true := by simp; omega
          go_wp2_with fail
          have sK : ∀ X : World, (∀ a, X.cell? a = V.cell? a) → (fun X : World => X.cell? ⟨g, 0, none⟩ = some (.slice T nt ct) ∧ X.cell? ⟨g + 1, 0, none⟩ = some (.slice T2 nt2 ct2)) X := fun X h => ⟨(h _).trans k0, (h _).trans k3⟩
          clear k0 k3
          refine wp_region_held_drew (S := (fun X : World => X.cell? ⟨g, 0, none⟩ = some (.slice T nt ct) ∧ X.cell? ⟨g + 1, 0, none⟩ = some (.slice T2 nt2 ct2))) (by kernel_rfl) (sK _ (fun _ => rfl)) (fun hHeld => ?_)
          clear hHeld
          refine wpAnyH_take (i := 0) (v := ?_) rfl (by kernel_rfl) (by kernel_rfl) (by kernel_rfl) (fun _ _ _ h => h) (Or.inl ⟨by rfl, ?_⟩) (sK _ (fun _ => rfl)) ?_
          rotate_left
          · (intro wS hSw; (try dsimp only at hSw); go_simp; try with_reducible rfl)
          simp only [Act.put, List.getElem_toArray, List.getElem_cons_zero, List.getElem_cons_succ, List.setIfInBounds_toArray, List.set_cons_zero, List.set_cons_succ]
          refine wpAnyH_take (i := 1) (v := ?_) rfl (by kernel_rfl) (by kernel_rfl) (by kernel_rfl) (fun _ _ _ h => h) (Or.inl ⟨by rfl, ?_⟩) (sK _ (fun _ => rfl)) ?_
          rotate_left
          · (intro wS hSw; (try dsimp only at hSw); go_simp; try with_reducible rfl)
          simp only [Act.put, List.getElem_toArray, List.getElem_cons_zero, List.getElem_cons_succ, List.setIfInBounds_toArray, List.set_cons_zero, List.set_cons_succ]
          refine wpAnyH_take (i := 2) (v := ?_) rfl (by kernel_rfl) (by kernel_rfl) (by kernel_rfl) (fun _ _ _ h => h) (Or.inl ⟨by rfl, ?_⟩) (sK _ (fun _ => rfl)) ?_
          rotate_left
          · (intro wS hSw; (try dsimp only at hSw); go_simp; try with_reducible rfl)
          simp only [Act.put, List.getElem_toArray, List.getElem_cons_zero, List.getElem_cons_succ, List.setIfInBounds_toArray, List.set_cons_zero, List.set_cons_succ]
          refine wpAnyH_take (i := 3) (v := ?_) rfl (by kernel_rfl) (by kernel_rfl) (by kernel_rfl) (fun _ _ _ h => h) (Or.inl ⟨by rfl, ?_⟩) (sK _ (fun _ => rfl)) ?_
          rotate_left
          · (intro wS hSw; (try dsimp only at hSw); go_simp; try with_reducible rfl)
          simp only [Act.put, List.getElem_toArray, List.getElem_cons_zero, List.getElem_cons_succ, List.setIfInBounds_toArray, List.set_cons_zero, List.set_cons_succ]
          refine wpAnyH_take (i := 4) (v := ?_) rfl (by kernel_rfl) (by kernel_rfl) (by kernel_rfl) (fun _ _ _ h => h) (Or.inl ⟨by rfl, ?_⟩) (sK _ (fun _ => rfl)) ?_
          rotate_left
          · (intro wS hSw; (try dsimp only at hSw); go_simp; try with_reducible rfl)
          simp only [Act.put, List.getElem_toArray, List.getElem_cons_zero, List.getElem_cons_succ, List.setIfInBounds_toArray, List.set_cons_zero, List.set_cons_succ]
          refine wpAnyH_take (i := 5) (v := ?_) rfl (by kernel_rfl) (by kernel_rfl) (by kernel_rfl) (fun _ _ _ h => h) (Or.inl ⟨by rfl, ?_⟩) (sK _ (fun _ => rfl)) ?_
          rotate_left
          · (intro wS hSw; (try dsimp only at hSw); go_simp; try with_reducible rfl)
          simp only [Act.put, List.getElem_toArray, List.getElem_cons_zero, List.getElem_cons_succ, List.setIfInBounds_toArray, List.set_cons_zero, List.set_cons_succ]
          refine wpAnyH_take (i := 6) (v := ?_) rfl (by kernel_rfl) (by kernel_rfl) (by kernel_rfl) (fun _ _ _ h => h) (Or.inl ⟨by rfl, ?_⟩) (sK _ (fun _ => rfl)) ?_
          rotate_left
          · (intro wS hSw; (try dsimp only at hSw); go_simp; try with_reducible rfl)
          simp only [Act.put, List.getElem_toArray, List.getElem_cons_zero, List.getElem_cons_succ, List.setIfInBounds_toArray, List.set_cons_zero, List.set_cons_succ]
          refine wpAnyH_take (i := 7) (v := ?_) rfl (by kernel_rfl) (by kernel_rfl) (by kernel_rfl) (fun _ _ _ h => h) (Or.inl ⟨by rfl, ?_⟩) (sK _ (fun _ => rfl)) ?_
          rotate_left
          · (intro wS hSw; (try dsimp only at hSw); go_simp; try with_reducible rfl)
          simp only [Act.put, List.getElem_toArray, List.getElem_cons_zero, List.getElem_cons_succ, List.setIfInBounds_toArray, List.set_cons_zero, List.set_cons_succ]
          refine wpAnyH_take (i := 8) (v := ?_) rfl (by kernel_rfl) (by kernel_rfl) (by kernel_rfl) (fun _ _ _ h => h) (Or.inl ⟨by rfl, ?_⟩) (sK _ (fun _ => rfl)) ?_
          rotate_left
          · (intro wS hSw; (try dsimp only at hSw); go_simp; try with_reducible rfl)
          simp only [Act.put, List.getElem_toArray, List.getElem_cons_zero, List.getElem_cons_succ, List.setIfInBounds_toArray, List.set_cons_zero, List.set_cons_succ]
          refine wpAnyH_take (i := 9) (v := ?_) rfl (by kernel_rfl) (by kernel_rfl) (by kernel_rfl) (fun _ _ _ h => h) (Or.inl ⟨by rfl, ?_⟩) (sK _ (fun _ => rfl)) ?_
          rotate_left
          · (intro wS hSw; (try dsimp only at hSw); go_simp; try with_reducible rfl)
          simp only [Act.put, List.getElem_toArray, List.getElem_cons_zero, List.getElem_cons_succ, List.setIfInBounds_toArray, List.set_cons_zero, List.set_cons_succ]
          refine wpAnyH_take (i := 10) (v := ?_) rfl (by kernel_rfl) (by kernel_rfl) (by kernel_rfl) (fun _ _ _ h => h) (Or.inl ⟨by rfl, ?_⟩) (sK _ (fun _ => rfl)) ?_
          rotate_left
          · (intro wS hSw; (try dsimp only at hSw); go_simp; try with_reducible rfl)
          simp only [Act.put, List.getElem_toArray, List.getElem_cons_zero, List.getElem_cons_succ, List.setIfInBounds_toArray, List.set_cons_zero, List.set_cons_succ]
          refine wpAnyH_take (i := 11) (v := ?_) rfl (by kernel_rfl) (by kernel_rfl) (by kernel_rfl) (fun _ _ _ h => h) (Or.inl ⟨by rfl, ?_⟩) (sK _ (fun _ => rfl)) ?_
          rotate_left
          · (intro wS hSw; (try dsimp only at hSw); go_simp; try with_reducible rfl)
          simp only [Act.put, List.getElem_toArray, List.getElem_cons_zero, List.getElem_cons_succ, List.setIfInBounds_toArray, List.set_cons_zero, List.set_cons_succ]
          refine wpAnyH_take (i := 12) (v := ?_) rfl (by kernel_rfl) (by kernel_rfl) (by kernel_rfl) (fun _ _ _ h => h) (Or.inl ⟨by rfl, ?_⟩) (sK _ (fun _ => rfl)) ?_
          rotate_left
          · (intro wS hSw; (try dsimp only at hSw); go_simp; try with_reducible rfl)
          simp only [Act.put, List.getElem_toArray, List.getElem_cons_zero, List.getElem_cons_succ, List.setIfInBounds_toArray, List.set_cons_zero, List.set_cons_succ]
          refine wpAnyH_take (i := 13) (v := undef) rfl (by kernel_rfl) (by kernel_rfl) (by kernel_rfl) (fun _ _ _ h => h) (Or.inr ⟨by kernel_rfl, rfl⟩) (sK _ (fun _ => rfl)) ?_
          simp only [Act.put, List.getElem_toArray, List.getElem_cons_zero, List.getElem_cons_succ, List.setIfInBounds_toArray, List.set_cons_zero, List.set_cons_succ]
          refine wpAnyH_take (i := 14) (v := undef) rfl (by kernel_rfl) (by kernel_rfl) (by kernel_rfl) (fun _ _ _ h => h) (Or.inr ⟨by kernel_rfl, rfl⟩) (sK _ (fun _ => rfl)) ?_
          simp only [Act.put, List.getElem_toArray, List.getElem_cons_zero, List.getElem_cons_succ, List.setIfInBounds_toArray, List.set_cons_zero, List.set_cons_succ]
          refine wpAnyH_take (i := 15) (v := undef) rfl (by kernel_rfl) (by kernel_rfl) (by kernel_rfl) (fun _ _ _ h => h) (Or.inr ⟨by kernel_rfl, rfl⟩) (sK _ (fun _ => rfl)) ?_
          simp only [Act.put, List.getElem_toArray, List.getElem_cons_zero, List.getElem_cons_succ, List.setIfInBounds_toArray, List.set_cons_zero, List.set_cons_succ]
          refine wpAnyH_take (i := 16) (v := undef) rfl (by kernel_rfl) (by kernel_rfl) (by kernel_rfl) (fun _ _ _ h => h) (Or.inr ⟨by kernel_rfl, rfl⟩) (sK _ (fun _ => rfl)) ?_
          simp only [Act.put, List.getElem_toArray, List.getElem_cons_zero, List.getElem_cons_succ, List.setIfInBounds_toArray, List.set_cons_zero, List.set_cons_succ]
          refine wpAnyH_take (i := 17) (v := undef) rfl (by kernel_rfl) (by kernel_rfl) (by kernel_rfl) (fun _ _ _ h => h) (Or.inr ⟨by kernel_rfl, rfl⟩) (sK _ (fun _ => rfl)) ?_
          simp only [Act.put, List.getElem_toArray, List.getElem_cons_zero, List.getElem_cons_succ, List.setIfInBounds_toArray, List.set_cons_zero, List.set_cons_succ]
          refine wpAnyH_take (i := 18) (v := undef) rfl (by kernel_rfl) (by kernel_rfl) (by kernel_rfl) (fun _ _ _ h => h) (Or.inr ⟨by kernel_rfl, rfl⟩) (sK _ (fun _ => rfl)) ?_
          simp only [Act.put, List.getElem_toArray, List.getElem_cons_zero, List.getElem_cons_succ, List.setIfInBounds_toArray, List.set_cons_zero, List.set_cons_succ]
          refine wpAnyH_take (i := 19) (v := undef) rfl (by kernel_rfl) (by kernel_rfl) (by kernel_rfl) (fun _ _ _ h => h) (Or.inr ⟨by kernel_rfl, rfl⟩) (sK _ (fun _ => rfl)) ?_
          simp only [Act.put, List.getElem_toArray, List.getElem_cons_zero, List.getElem_cons_succ, List.setIfInBounds_toArray, List.set_cons_zero, List.set_cons_succ]
          refine wpAnyH_take (i := 20) (v := undef) rfl (by kernel_rfl) (by kernel_rfl) (by kernel_rfl) (fun _ _ _ h => h) (Or.inr ⟨by kernel_rfl, rfl⟩) (sK _ (fun _ => rfl)) ?_
          simp only [Act.put, List.getElem_toArray, List.getElem_cons_zero, List.getElem_cons_succ, List.setIfInBounds_toArray, List.set_cons_zero, List.set_cons_succ]
          refine wpAnyH_take (i := 21) (v := undef) rfl (by kernel_rfl) (by kernel_rfl) (by kernel_rfl) (fun _ _ _ h => h) (Or.inr ⟨by kernel_rfl, rfl⟩) (sK _ (fun _ => rfl)) ?_
          simp only [Act.put, List.getElem_toArray, List.getElem_cons_zero, List.getElem_cons_succ, List.setIfInBounds_toArray, List.set_cons_zero, List.set_cons_succ]
          refine wpAnyH_take (i := 22) (v := undef) rfl (by kernel_rfl) (by kernel_rfl) (by kernel_rfl) (fun _ _ _ h => h) (Or.inr ⟨by kernel_rfl, rfl⟩) (sK _ (fun _ => rfl)) ?_
          simp only [Act.put, List.getElem_toArray, List.getElem_cons_zero, List.getElem_cons_succ, List.setIfInBounds_toArray, List.set_cons_zero, List.set_cons_succ]
          refine wpAnyH_take (i := 23) (v := undef) rfl (by kernel_rfl) (by kernel_rfl) (by kernel_rfl) (fun _ _ _ h => h) (Or.inr ⟨by kernel_rfl, rfl⟩) (sK _ (fun _ => rfl)) ?_
          simp only [Act.put, List.getElem_toArray, List.getElem_cons_zero, List.getElem_cons_succ, List.setIfInBounds_toArray, List.set_cons_zero, List.set_cons_succ]
          refine wpAnyH_take (i := 24) (v := ?_) rfl (by kernel_rfl) (by kernel_rfl) (by kernel_rfl) (fun _ _ _ h => h) (Or.inl ⟨by rfl, ?_⟩) (sK _ (fun _ => rfl)) ?_
          rotate_left
          · (intro wS hSw; (try dsimp only at hSw); go_simp; try with_reducible rfl)
          simp only [Act.put, List.getElem_toArray, List.getElem_cons_zero, List.getElem_cons_succ, List.setIfInBounds_toArray, List.set_cons_zero, List.set_cons_succ]
          refine wpAnyH_done (by kernel_rfl) ?_ _
          go_wp2_with fail
          go_roundw
          case rel => exact ⟨s, s, true, by omega, HP, rfl, rfl, by go_num, _, rfl⟩
          case measure => simp [intOf]
        obtain ⟨b1, o1, rfl, _, h1⟩ := rdZ_row HA.out (by omega) (by omega)
        obtain ⟨b2, o2, rfl, _, h2⟩ := rdZ_row HA2.out (by omega) (by omega)
        by_cases hw0 : True
        · skip
          have a0 : V.cell? ⟨b1, o1 + s * 7, none⟩ = _ := h1 s 0 (by omega) (by omega)
          have a1 := h1 s 1 (by omega) (by omega)
          have a2 := h1 s 2 (by omega) (by omega)
          have a3 := h1 s 3 (by omega) (by omega)
          have a4 := h1 s 4 (by omega) (by omega)
          have a5 := h1 s 5 (by omega) (by omega)
          have a6 := h1 s 6 (by omega) (by omega)
          have e0 : V.cell? ⟨b2, o2 + s * 7, none⟩ = _ := h2 s 0 (by omega) (by omega)
          have e1 := h2 s 1 (by omega) (by omega)
          have e2 := h2 s 2 (by omega) (by omega)
          have e3 := h2 s 3 (by omega) (by omega)
          have e4 := h2 s 4 (by omega) (by omega)
          have e5 := h2 s 5 (by omega) (by omega)
          have e6 := h2 s 6 (by omega) (by omega)
          clear h1 h2
          obtain ⟨x0, hx0⟩ : ∃ x, z s 0 = x := ⟨_, rfl⟩
          obtain ⟨y0, hy0⟩ : ∃ y, z2 s 0 = y := ⟨_, rfl⟩
          rw [hx0] at a0
          rw [hy0] at e0
          obtain ⟨x1, hx1⟩ : ∃ x, z s 1 = x := ⟨_, rfl⟩
          obtain ⟨y1, hy1⟩ : ∃ y, z2 s 1 = y := ⟨_, rfl⟩
          rw [hx1] at a1
          rw [hy1] at e1
          obtain ⟨x2, hx2⟩ : ∃ x, z s 2 = x := ⟨_, rfl⟩
          obtain ⟨y2, hy2⟩ : ∃ y, z2 s 2 = y := ⟨_, rfl⟩
          rw [hx2] at a2
          rw [hy2] at e2
          obtain ⟨x3, hx3⟩ : ∃ x, z s 3 = x := ⟨_, rfl⟩
          obtain ⟨y3, hy3⟩ : ∃ y, z2 s 3 = y := ⟨_, rfl⟩
          rw [hx3] at a3
          rw [hy3] at e3
          obtain ⟨x4, hx4⟩ : ∃ x, z s 4 = x := ⟨_, rfl⟩
          obtain ⟨y4, hy4⟩ : ∃ y, z2 s 4 = y := ⟨_, rfl⟩
          rw [hx4] at a4
          rw [hy4] at e4
          obtain ⟨x5, hx5⟩ : ∃ x, z s 5 = x := ⟨_, rfl⟩
          obtain ⟨y5, hy5⟩ : ∃ y, z2 s 5 = y := ⟨_, rfl⟩
          rw [hx5] at a5
          rw [hy5] at e5
          obtain ⟨x6, hx6⟩ : ∃ x, z s 6 = x := ⟨_, rfl⟩
          obtain ⟨y6, hy6⟩ : ∃ y, z2 s 6 = y := ⟨_, rfl⟩
          rw [hx6] at a6
          rw [hy6] at e6
          by_cases hs : x0 = y0 ∧ x1 = y1 ∧ x2 = y2 ∧ x3 = y3 ∧ x4 = y4 ∧ x5 = y5 ∧ x6 = y6
          · have HP : Hid (PartFrom nt nt2 z z2 s a bb) := Lib.hid (pf_old hall.out ⟨by omega, by omega, fun j hj => by
              rcases j with _ | _ | _ | _ | _ | _ | _ | j <;> first | omega | (simp only [hx0, hx1, hx2, hx3, hx4, hx5, hx6, hy0, hy1, hy2, hy3, hy4, hy5, hy6, hs])⟩)
            clear hx0 hy0 hx1 hy1 hx2 hy2 hx3 hy3 hx4 hy4 hx5 hy5 hx6 hy6 hall hw0
            obtain ⟨rfl, rfl, rfl, rfl, rfl, rfl, rfl⟩ := hs
            go_wp2_with fail
            go_quiet (fail)
            go_wp2_with fail
            go_roundw
            case rel => exact ⟨s, a, bb, by omega, HP, rfl, rfl, by go_num, _, rfl⟩
            case measure => simp [intOf]
          · have HP : Hid (PartFrom nt nt2 z z2 s s true) := Lib.hid (pf_new hall.out (by omega) (fun hc => hs ⟨by rw [← hx0, ← hy0]; exact hc.2.2 0 (by omega), by rw [← hx1, ← hy1]; exact hc.2.2 1 (by omega), by rw [← hx2, ← hy2]; exact hc.2.2 2 (by omega), by rw [← hx3, ← hy3]; exact hc.2.2 3 (by omega), by rw [← hx4, ← hy4]; exact hc.2.2 4 (by omega), by rw [← hx5, ← hy5]; exact hc.2.2 5 (by omega), by rw [← hx6, ← hy6]; exact hc.2.2 6 (by omega)⟩))
            clear hx0 hy0 hx1 hy1 hx2 hy2 hx3 hy3 hx4 hy4 hx5 hy5 hx6 hy6 hall hw0
            have hw : ((x0 == y0) = false) ∨ (x0 = y0 ∧ (x1 == y1) = false) ∨ (x0 = y0 ∧ x1 = y1 ∧ (x2 == y2) = false) ∨ (x0 = y0 ∧ x1 = y1 ∧ x2 = y2 ∧ (x3 == y3) = false) ∨ (x0 = y0 ∧ x1 = y1 ∧ x2 = y2 ∧ x3 = y3 ∧ (x4 == y4) = false) ∨ (x0 = y0 ∧ x1 = y1 ∧ x2 = y2 ∧ x3 = y3 ∧ x4 = y4 ∧ (x5 == y5) = false) ∨ (x0 = y0 ∧ x1 = y1 ∧ x2 = y2 ∧ x3 = y3 ∧ x4 = y4 ∧ x5 = y5 ∧ (x6 == y6) = false) := by
              by_cases g0 : x0 = y0
              case neg => exact Or.inl (by simpa using g0)
              by_cases g1 : x1 = y1
              case neg => exact Or.inr (Or.inl ⟨g0, by simpa using g1⟩)
              by_cases g2 : x2 = y2
              case neg => exact Or.inr (Or.inr (Or.inl ⟨g0, g1, by simpa using g2⟩))
              by_cases g3 : x3 = y3
              case neg => exact Or.inr (Or.inr (Or.inr (Or.inl ⟨g0, g1, g2, by simpa using g3⟩)))
              by_cases g4 : x4 = y4
              case neg => exact Or.inr (Or.inr (Or.inr (Or.inr (Or.inl ⟨g0, g1, g2, g3, by simpa using g4⟩))))
              by_cases g5 : x5 = y5
              case neg => exact Or.inr (Or.inr (Or.inr (Or.inr (Or.inr (Or.inl ⟨g0, g1, g2, g3, g4, by simpa using g5⟩)))))
              by_cases g6 : x6 = y6
              case neg => exact Or.inr (Or.inr (Or.inr (Or.inr (Or.inr (Or.inr (⟨g0, g1, g2, g3, g4, g5, by simpa using g6⟩))))))
              exact absurd ⟨g0, g1, g2, g3, g4, g5, g6⟩ hs
            clear hs
            rcases hw with hb | ⟨rfl, hb⟩ | ⟨rfl, rfl, hb⟩ | ⟨rfl, rfl, rfl, hb⟩ | ⟨rfl, rfl, rfl, rfl, hb⟩ | ⟨rfl, rfl, rfl, rfl, rfl, hb⟩ | ⟨rfl, rfl, rfl, rfl, rfl, rfl, hb⟩
            · go_wp2_with fail
              go_quiet (fail)
              go_wp2_with fail
              go_roundw
              case rel => exact ⟨s, s, true, by omega, HP, rfl, rfl, by go_num, _, rfl⟩
              case measure => simp [intOf]
            · go_wp2_with fail
              go_quiet (fail)
              go_wp2_with fail
              go_roundw
              case rel => exact ⟨s, s, true, by omega, HP, rfl, rfl, by go_num, _, rfl⟩
              case measure => simp [intOf]
            · go_wp2_with fail
              go_quiet (fail)
              go_wp2_with fail
              go_roundw
              case rel => exact ⟨s, s, true, by omega, HP, rfl, rfl, by go_num, _, rfl⟩
              case measure => simp [intOf]
            · go_wp2_with fail
              go_quiet (fail)
              go_wp2_with fail
              go_roundw
              case rel => exact ⟨s, s, true, by omega, HP, rfl, rfl, by go_num, _, rfl⟩
              case measure => simp [intOf]
            · go_wp2_with fail
              go_quiet (fail)
              go_wp2_with fail
              go_roundw
              case rel => exact ⟨s, s, true, by omega, HP, rfl, rfl, by go_num, _, rfl⟩
              case measure => simp [intOf]
            · go_wp2_with fail
              go_quiet (fail)
              go_wp2_with fail
              go_roundw
              case rel => exact ⟨s, s, true, by omega, HP, rfl, rfl, by go_num, _, rfl⟩
              case measure => simp [intOf]
            · go_wp2_with fail
              go_quiet (fail)
              go_wp2_with fail
              go_roundw
              case rel => exact ⟨s, s, true, by omega, HP, rfl, rfl, by go_num, _, rfl⟩
              case measure => simp [intOf]
        · exact absurd trivial hw0
      · obtain rfl : p = 0 := by omega
        go_wp2_with fail
        refine (dtrips_any T T2 ct ct2 nt nt2 z z2 _ (RdZ.kept HA.out (below_drewN (Below.refl _ _) q)) (RdZ.kept HA2.out (below_drewN (Below.refl _ _) q)) (by omega) (by omega)).mono fun e W3 ⟨i, c, he, hq, kd, hkd⟩ => ?_
        obtain ⟨rfl, rfl⟩ := pf_one hall.out hq.out
        subst he hkd
        clear hall hq
        obtain ⟨q, hq⟩ : ∃ q', (V.drewN q).drewN kd = V.drewN q' := ⟨_, World.drewN_drewN ..⟩
        rw [hq]
        clear hq
        have EV := E2
        clear E2
        have k1 : V.cell? ⟨g, 1, none⟩ = some (.slice A n d) := LA2.out.cell 1
        have k4 : V.cell? ⟨g + 1, 1, none⟩ = some (.slice A2 n2 d2) := LB2.out.cell 1
        by_cases hy : n2 < n
        · skip
          go_wp2_with fail
          go_loopw [10] (fun i wr => ∃ k : Nat, k ≤ n2 ∧ i = .int .i64 k ∧ ∃ q, wr = V.drewN q) (fun i _ => n2 - (intOf i).toNat)
          case atStart => exact ⟨0, by omega, rfl, _, rfl⟩
          case round =>
            obtain ⟨k, hk, rfl, q, rfl⟩ := hrel
            by_cases h : k < n2
            · skip
              have h' : k < n ∧ k < n2 := by omega
              obtain ⟨b1, o1, rfl, _, h1⟩ := rdW_row HB.out (by omega)
              obtain ⟨b2, o2, rfl, _, h2⟩ := rdW_row HB2.out (by omega)
              have c1 : V.cell? ⟨b1, o1 + k, none⟩ = _ := h1 k h'.1
              have c2 : V.cell? ⟨b2, o2 + k, none⟩ = _ := h2 k h'.2
              have KB : ∀ q, RdW (V.drewN q) 4 shLeg _ n P ln cp v := fun q => RdW.kept OB.out (below_drewN EV.out q)
              have KB2 : ∀ q, RdW (V.drewN q) 4 shLeg _ n2 P2 ln2 cp2 v2 := fun q => RdW.kept OB2.out (below_drewN EV.out q)
              have hM : maxLen ≤ 9223372036854775807 := by decide
              have KC := Lib.hid (fun q => let l := rdW_at (KB q) h'.1; let m := rdW_at (KB2 q) h'.2; dlegs_eq (P k) (P2 k) (cp k) (cp2 k) (ln k) (ln2 k) (v k) (v2 k) (V.drewN q) l.2.2 m.2.2 (by omega) (by omega))
              have KD := Lib.hid (fun q => let l := rdW_at (KB q) h'.1; let m := rdW_at (KB2 q) h'.2; legs_eq (P k) (P2 k) (cp k) (cp2 k) (ln k) (ln2 k) (v k) (v2 k) (V.drewN q) l.2.2 m.2.2 (by omega) (by omega))
              clear h1 h2 KB KB2 hM
              obtain ⟨p1, hp1⟩ : ∃ x, P k = x := ⟨_, rfl⟩
              obtain ⟨p2, hp2⟩ : ∃ x, P2 k = x := ⟨_, rfl⟩
              obtain ⟨l1, hl1⟩ : ∃ x, ln k = x := ⟨_, rfl⟩
              obtain ⟨l2, hl2⟩ : ∃ x, ln2 k = x := ⟨_, rfl⟩
              obtain ⟨f1, hd1⟩ : ∃ x, cp k = x := ⟨_, rfl⟩
              obtain ⟨f2, hf2⟩ : ∃ x, cp2 k = x := ⟨_, rfl⟩
              obtain ⟨r, hr⟩ : ∃ x, sameV 4 l1 l2 (v k) (v2 k) = x := ⟨_, rfl⟩
              rw [hp1, hl1, hd1] at c1
              rw [hp2, hl2, hf2] at c2
              rw [hp1, hl1, hd1, hp2, hl2, hf2, hr] at KC KD
              have hrr : (r != r) = false := by simp
              clear hp1 hp2 hl1 hl2 hd1 hf2 hr
              go_wp2_with fail
              have sK : ∀ X : World, (∀ a, X.cell? a = V.cell? a) → (fun X : World => X.cell? ⟨g, 1, none⟩ = some (.slice (some ⟨b1, o1, none⟩) n d) ∧ X.cell? ⟨g + 1, 1, none⟩ = some (.slice (some ⟨b2, o2, none⟩) n2 d2) ∧ X.cell? ⟨b1, o1 + k, none⟩ = some (.slice p1 l1 f1) ∧ X.cell? ⟨b2, o2 + k, none⟩ = some (.slice p2 l2 f2)) X := fun X h => ⟨(h _).trans k1, (h _).trans k4, (h _).trans c1, (h _).trans c2⟩
              clear k1 k4 c1 c2
              refine wp_region_held_drew (S := (fun X : World => X.cell? ⟨g, 1, none⟩ = some (.slice (some ⟨b1, o1, none⟩) n d) ∧ X.cell? ⟨g + 1, 1, none⟩ = some (.slice (some ⟨b2, o2, none⟩) n2 d2) ∧ X.cell? ⟨b1, o1 + k, none⟩ = some (.slice p1 l1 f1) ∧ X.cell? ⟨b2, o2 + k, none⟩ = some (.slice p2 l2 f2))) (by kernel_rfl) (sK _ (fun _ => rfl)) (fun hHeld => ?_)
              clear hHeld
              refine wpAnyH_take (i := 0) (v := ?_) rfl (by kernel_rfl) (by kernel_rfl) (by kernel_rfl) (fun _ _ _ h => h) (Or.inl ⟨by rfl, ?_⟩) (sK _ (fun _ => rfl)) ?_
              rotate_left
              · (intro wS hSw; (try dsimp only at hSw); go_simp; try with_reducible rfl)
              simp only [Act.put, List.getElem_toArray, List.getElem_cons_zero, List.getElem_cons_succ, List.setIfInBounds_toArray, List.set_cons_zero, List.set_cons_succ]
              refine wpAnyH_take (i := 1) (v := ?_) rfl (by kernel_rfl) (by kernel_rfl) (by kernel_rfl) (fun _ _ _ h => h) (Or.inl ⟨by rfl, ?_⟩) (sK _ (fun _ => rfl)) ?_
              rotate_left
              · (intro wS hSw; (try dsimp only at hSw); go_simp; try with_reducible rfl)
              simp only [Act.put, List.getElem_toArray, List.getElem_cons_zero, List.getElem_cons_succ, List.setIfInBounds_toArray, List.set_cons_zero, List.set_cons_succ]
              refine wpAnyH_take (i := 2) (v := ?_) rfl (by kernel_rfl) (by kernel_rfl) (by kernel_rfl) (fun _ _ _ h => h) (Or.inl ⟨by rfl, ?_⟩) (sK _ (fun _ => rfl)) ?_
              rotate_left
              · (intro wS hSw; (try dsimp only at hSw); go_simp; try with_reducible rfl)
              simp only [Act.put, List.getElem_toArray, List.getElem_cons_zero, List.getElem_cons_succ, List.setIfInBounds_toArray, List.set_cons_zero, List.set_cons_succ]
              refine wpAnyH_take (i := 3) (v := ?_) rfl (by kernel_rfl) (by kernel_rfl) (by kernel_rfl) (fun _ _ _ h => h) (Or.inl ⟨by rfl, ?_⟩) (sK _ (fun _ => rfl)) ?_
              rotate_left
              · (intro wS hSw; (try dsimp only at hSw); go_simp; try with_reducible rfl)
              simp only [Act.put, List.getElem_toArray, List.getElem_cons_zero, List.getElem_cons_succ, List.setIfInBounds_toArray, List.set_cons_zero, List.set_cons_succ]
              refine wpAnyH_take (i := 4) (v := ?_) rfl (by kernel_rfl) (by kernel_rfl) (by kernel_rfl) (fun _ _ _ h => h) (Or.inl ⟨by rfl, ?_⟩) (sK _ (fun _ => rfl)) ?_
              rotate_left
              · (intro wS hSw; (try dsimp only at hSw); go_simp; try with_reducible rfl)
              simp only [Act.put, List.getElem_toArray, List.getElem_cons_zero, List.getElem_cons_succ, List.setIfInBounds_toArray, List.set_cons_zero, List.set_cons_succ]
              refine wpAnyH_take (i := 5) (v := ?_) rfl (by kernel_rfl) (by kernel_rfl) (by kernel_rfl) (fun _ _ _ h => h) (Or.inl ⟨by rfl, ?_⟩) (sK _ (fun _ => rfl)) ?_
              rotate_left
              · (intro wS hSw; (try dsimp only at hSw); go_simp; try with_reducible rfl)
              simp only [Act.put, List.getElem_toArray, List.getElem_cons_zero, List.getElem_cons_succ, List.setIfInBounds_toArray, List.set_cons_zero, List.set_cons_succ]
              refine wpAnyH_take (i := 6) (v := ?_) rfl (by kernel_rfl) (by kernel_rfl) (by kernel_rfl) (fun _ _ _ h => h) (Or.inl ⟨by rfl, ?_⟩) (sK _ (fun _ => rfl)) ?_
              rotate_left
              · (intro wS hSw; (try dsimp only at hSw); go_simp; try with_reducible rfl)
              simp only [Act.put, List.getElem_toArray, List.getElem_cons_zero, List.getElem_cons_succ, List.setIfInBounds_toArray, List.set_cons_zero, List.set_cons_succ]
              refine wpAnyH_take (i := 7) (v := ?_) rfl (by kernel_rfl) (by kernel_rfl) (by kernel_rfl) (fun _ _ _ h => h) (Or.inl ⟨by rfl, ?_⟩) (sK _ (fun _ => rfl)) ?_
              rotate_left
              · (intro wS hSw; (try dsimp only at hSw); go_simp; try with_reducible rfl)
              simp only [Act.put, List.getElem_toArray, List.getElem_cons_zero, List.getElem_cons_succ, List.setIfInBounds_toArray, List.set_cons_zero, List.set_cons_succ]
              refine wpAnyH_take (i := 8) (v := ?_) rfl (by kernel_rfl) (by kernel_rfl) (by kernel_rfl) (fun _ _ _ h => h) (Or.inl ⟨by rfl, ?_⟩) (sK _ (fun _ => rfl)) ?_
              rotate_left
              · (intro wS hSw; (try dsimp only at hSw); go_simp; try with_reducible rfl)
              simp only [Act.put, List.getElem_toArray, List.getElem_cons_zero, List.getElem_cons_succ, List.setIfInBounds_toArray, List.set_cons_zero, List.set_cons_succ]
              refine wpAnyH_take (i := 9) (v := ?_) rfl (by kernel_rfl) (by kernel_rfl) (by kernel_rfl) (fun _ _ _ h => h) (Or.inl ⟨by rfl, ?_⟩) (sK _ (fun _ => rfl)) ?_
              rotate_left
              · (intro wS hSw; (try dsimp only at hSw); go_simp; try with_reducible rfl)
              simp only [Act.put, List.getElem_toArray, List.getElem_cons_zero, List.getElem_cons_succ, List.setIfInBounds_toArray, List.set_cons_zero, List.set_cons_succ]
              refine wpAnyH_take (i := 11) (v := ?_) rfl (by kernel_rfl) (by kernel_rfl) (by kernel_rfl) (fun _ _ _ h => h) (Or.inl ⟨by rfl, ?_⟩) (sK _ (fun _ => rfl)) ?_
              rotate_left
              · (intro wS hSw; (try dsimp only at hSw); go_simp; try with_reducible rfl)
              simp only [Act.put, List.getElem_toArray, List.getElem_cons_zero, List.getElem_cons_succ, List.setIfInBounds_toArray, List.set_cons_zero, List.set_cons_succ]
              refine wpAnyH_take (i := 12) (v := ?_) rfl (by kernel_rfl) (by kernel_rfl) (by kernel_rfl) (fun _ _ _ h => h) (Or.inl ⟨by rfl, ?_⟩) (sK _ (fun _ => rfl)) ?_
              rotate_left
              · (intro wS hSw; (try dsimp only at hSw); go_simp; try with_reducible rfl)
              simp only [Act.put, List.getElem_toArray, List.getElem_cons_zero, List.getElem_cons_succ, List.setIfInBounds_toArray, List.set_cons_zero, List.set_cons_succ]
              refine wpAnyH_take (i := 13) (v := ?_) rfl (by kernel_rfl) (by kernel_rfl) (by kernel_rfl) (fun _ _ _ h => h) (Or.inl ⟨by rfl, ?_⟩) (sK _ (fun _ => rfl)) ?_
              rotate_left
              · (intro wS hSw; (try dsimp only at hSw); go_simp; try with_reducible rfl)
              simp only [Act.put, List.getElem_toArray, List.getElem_cons_zero, List.getElem_cons_succ, List.setIfInBounds_toArray, List.set_cons_zero, List.set_cons_succ]
              refine wpAnyH_take (i := 14) (v := ?_) rfl (by kernel_rfl) (by kernel_rfl) (by kernel_rfl) (fun _ _ _ h => h) (Or.inl ⟨by rfl, ?_⟩) (sK _ (fun _ => rfl)) ?_
              rotate_left
              · (intro wS hSw; (try dsimp only at hSw); go_simp; try with_reducible rfl)
              simp only [Act.put, List.getElem_toArray, List.getElem_cons_zero, List.getElem_cons_succ, List.setIfInBounds_toArray, List.set_cons_zero, List.set_cons_succ]
              refine wpAnyH_take (i := 15) (v := ?_) rfl (by kernel_rfl) (by kernel_rfl) (by kernel_rfl) (fun _ _ _ h => h) (Or.inl ⟨by rfl, ?_⟩) (sK _ (fun _ => rfl)) ?_
              rotate_left
              · (intro wS hSw; (try dsimp only at hSw); go_simp; try with_reducible rfl)
              simp only [Act.put, List.getElem_toArray, List.getElem_cons_zero, List.getElem_cons_succ, List.setIfInBounds_toArray, List.set_cons_zero, List.set_cons_succ]
              refine wpAnyH_take (i := 16) (v := ?_) rfl (by kernel_rfl) (by kernel_rfl) (by kernel_rfl) (fun _ _ _ h => h) (Or.inl ⟨by rfl, ?_⟩) (sK _ (fun _ => rfl)) ?_
              rotate_left
              · (intro wS hSw; (try dsimp only at hSw); go_simp; try with_reducible rfl)
              simp only [Act.put, List.getElem_toArray, List.getElem_cons_zero, List.getElem_cons_succ, List.setIfInBounds_toArray, List.set_cons_zero, List.set_cons_succ]
              refine wpAnyH_take (i := 17) (v := ?_) rfl (by kernel_rfl) (by kernel_rfl) (by kernel_rfl) (fun _ _ _ h => h) (Or.inl ⟨by rfl, ?_⟩) (sK _ (fun _ => rfl)) ?_
              rotate_left
              · (intro wS hSw; (try dsimp only at hSw); go_simp; try with_reducible rfl)
              simp only [Act.put, List.getElem_toArray, List.getElem_cons_zero, List.getElem_cons_succ, List.setIfInBounds_toArray, List.set_cons_zero, List.set_cons_succ]
              refine wpAnyH_take (i := 18) (v := ?_) rfl (by kernel_rfl) (by kernel_rfl) (by kernel_rfl) (fun _ _ _ h => h) (Or.inl ⟨by rfl, ?_⟩) (sK _ (fun _ => rfl)) ?_
              rotate_left
              · (intro wS hSw; (try dsimp only at hSw); go_simp; try with_reducible rfl)
              simp only [Act.put, List.getElem_toArray, List.getElem_cons_zero, List.getElem_cons_succ, List.setIfInBounds_toArray, List.set_cons_zero, List.set_cons_succ]
              refine wpAnyH_take (i := 19) (v := ?_) rfl (by kernel_rfl) (by kernel_rfl) (by kernel_rfl) (fun _ _ _ h => h) (Or.inl ⟨by rfl, ?_⟩) (sK _ (fun _ => rfl)) ?_
              rotate_left
              · (intro wS hSw; (try dsimp only at hSw); go_simp; try with_reducible rfl)
              simp only [Act.put, List.getElem_toArray, List.getElem_cons_zero, List.getElem_cons_succ, List.setIfInBounds_toArray, List.set_cons_zero, List.set_cons_succ]
              refine wpAnyH_take (i := 20) (v := ?_) rfl (by kernel_rfl) (by kernel_rfl) (by kernel_rfl) (fun _ _ _ h => h) (Or.inl ⟨by rfl, ?_⟩) (sK _ (fun _ => rfl)) ?_
              rotate_left
              · (intro wS hSw; (try dsimp only at hSw); go_simp; try with_reducible rfl)
              simp only [Act.put, List.getElem_toArray, List.getElem_cons_zero, List.getElem_cons_succ, List.setIfInBounds_toArray, List.set_cons_zero, List.set_cons_succ]
              refine wpAnyH_ready (rs := [10]) (by kernel_rfl) (by simp) ?_
              refine AllReadyH.cons rfl (fun K hK => ?_) AllReadyH.nil
              go_simp
              refine (KC.out (q + 1)).mono ?_
              rintro e r1 ⟨rfl, x1, rfl⟩
              go_wp2_with fail
              refine hK.out _ _ (sK _ (fun _ => rfl)) (fun hHeld => ?_)
              clear hK K hHeld
              try simp only [Act.put, List.getElem_toArray, List.getElem_cons_zero, List.getElem_cons_succ, List.setIfInBounds_toArray, List.set_cons_zero, List.set_cons_succ]
              refine wpAnyH_ready (rs := [21]) (by kernel_rfl) (by simp) ?_
              refine AllReadyH.cons rfl (fun K hK => ?_) AllReadyH.nil
              go_simp
              refine (KD.out (q + 1 + x1)).mono ?_
              rintro e r1 ⟨rfl, x2, rfl⟩
              go_wp2_with fail
              refine hK.out _ _ (sK _ (fun _ => rfl)) (fun hHeld => ?_)
              clear hK K hHeld
              try simp only [Act.put, List.getElem_toArray, List.getElem_cons_zero, List.getElem_cons_succ, List.setIfInBounds_toArray, List.set_cons_zero, List.set_cons_succ]
              refine wpAnyH_take (i := 22) (v := ?_) rfl (by kernel_rfl) (by kernel_rfl) (by kernel_rfl) (fun _ _ _ h => h) (Or.inl ⟨by rfl, ?_⟩) (sK _ (fun _ => rfl)) ?_
              rotate_left
              · (intro wS hSw; (try dsimp only at hSw); go_simp; try with_reducible rfl)
              simp only [Act.put, List.getElem_toArray, List.getElem_cons_zero, List.getElem_cons_succ, List.setIfInBounds_toArray, List.set_cons_zero, List.set_cons_succ]
              refine wpAnyH_done (by kernel_rfl) ?_ _
              go_wp2_with fail
              go_roundw
              case rel => exact ⟨k + 1, by omega, by go_num, _, by first | rfl | exact World.drewN_drewN ..⟩
              case measure => simp [intOf]; omega
            · skip
              go_wp2_with fail
              clear k0 k1 k2 k3 k4 k5
              have E9 := below_drewN EV.out q
              have B9 := Blk.next (w := V) LA2.out (below_drewN (Below.refl _ _) q)
              have C9 := Blk.next (w := V) LB2.out (below_drewN (Below.refl _ _) q)
              obtain ⟨V9, hV9⟩ : ∃ X, V.drewN q = X := ⟨_, rfl⟩
              rw [hV9] at E9 B9 C9 ⊢
              clear hV9
              have EE := Lib.hid E9
              have Ha := Lib.hid B9
              have Hb := Lib.hid C9
              clear E9 B9 C9
              obtain ⟨rr, hrr⟩ : ∃ r, sameL u u2 nt nt2 z z2 n n2 ln ln2 v v2 = r := ⟨_, rfl⟩
              have KS : ∀ X, Below w.heap.size w X → _ := fun X hX => dsame_any T T2 A A2 ct ct2 d d2 nt nt2 n n2 u u2 z z2 P P2 ln ln2 cp cp2 v v2 X (RdZ.kept OA.out hX) (RdZ.kept OA2.out hX) (RdW.kept OB.out hX) (RdW.kept OB2.out hX) (by omega) (by omega) (by omega) (by omega)
              have KW : ∀ X, Below w.heap.size w X → _ := fun X hX => wsame_any T T2 A A2 ct ct2 d d2 nt nt2 n n2 u u2 z z2 P P2 ln ln2 cp cp2 v v2 X (RdZ.kept OA.out hX) (RdZ.kept OA2.out hX) (RdW.kept OB.out hX) (RdW.kept OB2.out hX) (by omega) (by omega) (by omega) (by omega)
              have KZ : ∀ X, Below w.heap.size w X → _ := fun X hX => dsame_any T T A A ct ct d d nt nt n n u u z z P P ln ln cp cp v v X (RdZ.kept OA.out hX) (RdZ.kept OA.out hX) (RdW.kept OB.out hX) (RdW.kept OB.out hX) (by omega) (by omega) (by omega) (by omega)
              rw [hrr] at KS KW
              rw [sameL_self] at KZ
              have hr1 : (rr == rr) = true := by simp
              have hc1 : (c == c) = true := by simp
              have hz1 : ((i : Int) == (i : Int)) = true := by simp
              clear hrr
              have KS := Lib.hid KS; have KW := Lib.hid KW; have KZ := Lib.hid KZ
              have ka0 : V9.cell? ⟨g, 0, none⟩ = some (.slice T nt ct) := Ha.out.cell 0
              have ka1 : V9.cell? ⟨g, 1, none⟩ = some (.slice A n d) := Ha.out.cell 1
              have ka2 : V9.cell? ⟨g, 2, none⟩ = some (.int .i64 u) := Ha.out.cell 2
              have kb0 : V9.cell? ⟨g + 1, 0, none⟩ = some (.slice T2 nt2 ct2) := Hb.out.cell 0
              have kb1 : V9.cell? ⟨g + 1, 1, none⟩ = some (.slice A2 n2 d2) := Hb.out.cell 1
              have kb2 : V9.cell? ⟨g + 1, 2, none⟩ = some (.int .i64 u2) := Hb.out.cell 2
              go_wp2_with fail
              have sK : ∀ X, Blk X (g) 25 #[.slice T nt ct, .slice A n d, .int .i64 u] → Blk X (g + 1) 25 #[.slice T2 nt2 ct2, .slice A2 n2 d2, .int .i64 u2] → (fun X => X.cell? ⟨g, 0, none⟩ = some (.slice T nt ct) ∧ X.cell? ⟨g, 1, none⟩ = some (.slice A n d) ∧ X.cell? ⟨g, 2, none⟩ = some (.int .i64 u) ∧ X.cell? ⟨g + 1, 0, none⟩ = some (.slice T2 nt2 ct2) ∧ X.cell? ⟨g + 1, 1, none⟩ = some (.slice A2 n2 d2) ∧ X.cell? ⟨g + 1, 2, none⟩ = some (.int .i64 u2)) X := fun X ha hb => ⟨ha.cell 0, ha.cell 1, ha.cell 2, hb.cell 0, hb.cell 1, hb.cell 2⟩
              have La0 := Lib.hid (Ha.out.drew)
              have Lb0 := Lib.hid (Hb.out.drew)
              have E0 := Lib.hid (EE.out.drew)
              clear ka0 ka1 ka2 kb0 kb1 kb2
              refine wp_region_held_drew (S := (fun X => X.cell? ⟨g, 0, none⟩ = some (.slice T nt ct) ∧ X.cell? ⟨g, 1, none⟩ = some (.slice A n d) ∧ X.cell? ⟨g, 2, none⟩ = some (.int .i64 u) ∧ X.cell? ⟨g + 1, 0, none⟩ = some (.slice T2 nt2 ct2) ∧ X.cell? ⟨g + 1, 1, none⟩ = some (.slice A2 n2 d2) ∧ X.cell? ⟨g + 1, 2, none⟩ = some (.int .i64 u2))) (by kernel_rfl) (sK _ La0.out Lb0.out) (fun hHeld => ?_)
              clear hHeld
              refine wpAnyH_take (i := 0) (v := ?_) rfl (by kernel_rfl) (by kernel_rfl) (by kernel_rfl) (fun _ _ _ h => h) (Or.inl ⟨by rfl, ?_⟩) (sK _ La0.out Lb0.out) ?_
              rotate_left
              · (intro wS hSw; (try dsimp only at hSw); go_simp; try with_reducible rfl)
              simp only [Act.put, List.getElem_toArray, List.getElem_cons_zero, List.getElem_cons_succ, List.setIfInBounds_toArray, List.set_cons_zero, List.set_cons_succ]
              refine wpAnyH_take (i := 1) (v := ?_) rfl (by kernel_rfl) (by kernel_rfl) (by kernel_rfl) (fun _ _ _ h => h) (Or.inl ⟨by rfl, ?_⟩) (sK _ La0.out Lb0.out) ?_
              rotate_left
              · (intro wS hSw; (try dsimp only at hSw); go_simp; try with_reducible rfl)
              simp only [Act.put, List.getElem_toArray, List.getElem_cons_zero, List.getElem_cons_succ, List.setIfInBounds_toArray, List.set_cons_zero, List.set_cons_succ]
              refine wpAnyH_take (i := 2) (v := ?_) rfl (by kernel_rfl) (by kernel_rfl) (by kernel_rfl) (fun _ _ _ h => h) (Or.inl ⟨by rfl, ?_⟩) (sK _ La0.out Lb0.out) ?_
              rotate_left
              · (intro wS hSw; (try dsimp only at hSw); go_simp; try with_reducible rfl)
              simp only [Act.put, List.getElem_toArray, List.getElem_cons_zero, List.getElem_cons_succ, List.setIfInBounds_toArray, List.set_cons_zero, List.set_cons_succ]
              refine wpAnyH_take (i := 3) (v := ?_) rfl (by kernel_rfl) (by kernel_rfl) (by kernel_rfl) (fun _ _ _ h => h) (Or.inl ⟨by rfl, ?_⟩) (sK _ La0.out Lb0.out) ?_
              rotate_left
              · (intro wS hSw; (try dsimp only at hSw); go_simp; try with_reducible rfl)
              simp only [Act.put, List.getElem_toArray, List.getElem_cons_zero, List.getElem_cons_succ, List.setIfInBounds_toArray, List.set_cons_zero, List.set_cons_succ]
              refine wpAnyH_take (i := 4) (v := ?_) rfl (by kernel_rfl) (by kernel_rfl) (by kernel_rfl) (fun _ _ _ h => h) (Or.inl ⟨by rfl, ?_⟩) (sK _ La0.out Lb0.out) ?_
              rotate_left
              · (intro wS hSw; (try dsimp only at hSw); go_simp; try with_reducible rfl)
              simp only [Act.put, List.getElem_toArray, List.getElem_cons_zero, List.getElem_cons_succ, List.setIfInBounds_toArray, List.set_cons_zero, List.set_cons_succ]
              refine wpAnyH_take (i := 5) (v := ?_) rfl (by kernel_rfl) (by kernel_rfl) (by kernel_rfl) (fun _ _ _ h => h) (Or.inl ⟨by rfl, ?_⟩) (sK _ La0.out Lb0.out) ?_
              rotate_left
              · (intro wS hSw; (try dsimp only at hSw); go_simp; try with_reducible rfl)
              simp only [Act.put, List.getElem_toArray, List.getElem_cons_zero, List.getElem_cons_succ, List.setIfInBounds_toArray, List.set_cons_zero, List.set_cons_succ]
              refine wpAnyH_take (i := 6) (v := ?_) rfl (by kernel_rfl) (by kernel_rfl) (by kernel_rfl) (fun _ _ _ h => h) (Or.inl ⟨by rfl, ?_⟩) (sK _ La0.out Lb0.out) ?_
              rotate_left
              · (intro wS hSw; (try dsimp only at hSw); go_simp; try with_reducible rfl)
              simp only [Act.put, List.getElem_toArray, List.getElem_cons_zero, List.getElem_cons_succ, List.setIfInBounds_toArray, List.set_cons_zero, List.set_cons_succ]
              refine wpAnyH_take (i := 7) (v := ?_) rfl (by kernel_rfl) (by kernel_rfl) (by kernel_rfl) (fun _ _ _ h => h) (Or.inl ⟨by rfl, ?_⟩) (sK _ La0.out Lb0.out) ?_
              rotate_left
              · (intro wS hSw; (try dsimp only at hSw); go_simp; try with_reducible rfl)
              simp only [Act.put, List.getElem_toArray, List.getElem_cons_zero, List.getElem_cons_succ, List.setIfInBounds_toArray, List.set_cons_zero, List.set_cons_succ]
              refine wpAnyH_take (i := 8) (v := ?_) rfl (by kernel_rfl) (by kernel_rfl) (by kernel_rfl) (fun _ _ _ h => h) (Or.inl ⟨by rfl, ?_⟩) (sK _ La0.out Lb0.out) ?_
              rotate_left
              · (intro wS hSw; (try dsimp only at hSw); go_simp; try with_reducible rfl)
              simp only [Act.put, List.getElem_toArray, List.getElem_cons_zero, List.getElem_cons_succ, List.setIfInBounds_toArray, List.set_cons_zero, List.set_cons_succ]
              refine wpAnyH_take (i := 9) (v := ?_) rfl (by kernel_rfl) (by kernel_rfl) (by kernel_rfl) (fun _ _ _ h => h) (Or.inl ⟨by rfl, ?_⟩) (sK _ La0.out Lb0.out) ?_
              rotate_left
              · (intro wS hSw; (try dsimp only at hSw); go_simp; try with_reducible rfl)
              simp only [Act.put, List.getElem_toArray, List.getElem_cons_zero, List.getElem_cons_succ, List.setIfInBounds_toArray, List.set_cons_zero, List.set_cons_succ]
              refine wpAnyH_take (i := 10) (v := ?_) rfl (by kernel_rfl) (by kernel_rfl) (by kernel_rfl) (fun _ _ _ h => h) (Or.inl ⟨by rfl, ?_⟩) (sK _ La0.out Lb0.out) ?_
              rotate_left
              · (intro wS hSw; (try dsimp only at hSw); go_simp; try with_reducible rfl)
              simp only [Act.put, List.getElem_toArray, List.getElem_cons_zero, List.getElem_cons_succ, List.setIfInBounds_toArray, List.set_cons_zero, List.set_cons_succ]
              refine wpAnyH_take (i := 12) (v := ?_) rfl (by kernel_rfl) (by kernel_rfl) (by kernel_rfl) (fun _ _ _ h => h) (Or.inl ⟨by rfl, ?_⟩) (sK _ La0.out Lb0.out) ?_
              rotate_left
              · (intro wS hSw; (try dsimp only at hSw); go_simp; try with_reducible rfl)
              simp only [Act.put, List.getElem_toArray, List.getElem_cons_zero, List.getElem_cons_succ, List.setIfInBounds_toArray, List.set_cons_zero, List.set_cons_succ]
              refine wpAnyH_take (i := 13) (v := ?_) rfl (by kernel_rfl) (by kernel_rfl) (by kernel_rfl) (fun _ _ _ h => h) (Or.inl ⟨by rfl, ?_⟩) (sK _ La0.out Lb0.out) ?_
              rotate_left
              · (intro wS hSw; (try dsimp only at hSw); go_simp; try with_reducible rfl)
              simp only [Act.put, List.getElem_toArray, List.getElem_cons_zero, List.getElem_cons_succ, List.setIfInBounds_toArray, List.set_cons_zero, List.set_cons_succ]
              refine wpAnyH_ready (rs := [11]) (by kernel_rfl) (by simp) ?_
              refine AllReadyH.cons rfl (fun K hK => ?_) AllReadyH.nil
              go_simp
              refine (KS.out _ E0.out).mono ?_
              rintro e r1 ⟨rfl, hb⟩
              have La1 := Lib.hid (Blk.next (w := V9.drew) La0.out hb)
              have Lb1 := Lib.hid (Blk.next (w := V9.drew) Lb0.out hb)
              have E1 := Lib.hid (E0.out.trans (hb.mono E0.out.size))
              clear hb
              go_wp2_with fail
              refine hK.out _ _ (sK _ La1.out Lb1.out) (fun hHeld => ?_)
              clear hK K hHeld
              try simp only [Act.put, List.getElem_toArray, List.getElem_cons_zero, List.getElem_cons_succ, List.setIfInBounds_toArray, List.set_cons_zero, List.set_cons_succ]
              refine wpAnyH_ready (rs := [14]) (by kernel_rfl) (by simp) ?_
              refine AllReadyH.cons rfl (fun K hK => ?_) AllReadyH.nil
              go_simp
              refine (KW.out _ E1.out).mono ?_
              rintro e r2 ⟨rfl, hb⟩
              have La2 := Lib.hid (Blk.next (w := r1) La1.out hb)
              have Lb2 := Lib.hid (Blk.next (w := r1) Lb1.out hb)
              have E2 := Lib.hid (E1.out.trans (hb.mono E1.out.size))
              clear hb
              go_wp2_with fail
              refine hK.out _ _ (sK _ La2.out Lb2.out) (fun hHeld => ?_)
              clear hK K hHeld
              try simp only [Act.put, List.getElem_toArray, List.getElem_cons_zero, List.getElem_cons_succ, List.setIfInBounds_toArray, List.set_cons_zero, List.set_cons_succ]
              refine wpAnyH_take (i := 15) (v := ?_) rfl (by kernel_rfl) (by kernel_rfl) (by kernel_rfl) (fun _ _ _ h => h) (Or.inl ⟨by rfl, ?_⟩) (sK _ La2.out Lb2.out) ?_
              rotate_left
              · (intro wS hSw; (try dsimp only at hSw); go_simp; try with_reducible rfl)
              simp only [Act.put, List.getElem_toArray, List.getElem_cons_zero, List.getElem_cons_succ, List.setIfInBounds_toArray, List.set_cons_zero, List.set_cons_succ]
              refine wpAnyH_take (i := 16) (v := ?_) rfl (by kernel_rfl) (by kernel_rfl) (by kernel_rfl) (fun _ _ _ h => h) (Or.inl ⟨by rfl, ?_⟩) (sK _ La2.out Lb2.out) ?_
              rotate_left
              · (intro wS hSw; (try dsimp only at hSw); go_simp; try with_reducible rfl)
              simp only [Act.put, List.getElem_toArray, List.getElem_cons_zero, List.getElem_cons_succ, List.setIfInBounds_toArray, List.set_cons_zero, List.set_cons_succ]
              refine wpAnyH_take (i := 17) (v := ?_) rfl (by kernel_rfl) (by kernel_rfl) (by kernel_rfl) (fun _ _ _ h => h) (Or.inl ⟨by rfl, ?_⟩) (sK _ La2.out Lb2.out) ?_
              rotate_left
              · (intro wS hSw; (try dsimp only at hSw); go_simp; try with_reducible rfl)
              simp only [Act.put, List.getElem_toArray, List.getElem_cons_zero, List.getElem_cons_succ, List.setIfInBounds_toArray, List.set_cons_zero, List.set_cons_succ]
              refine wpAnyH_take (i := 18) (v := ?_) rfl (by kernel_rfl) (by kernel_rfl) (by kernel_rfl) (fun _ _ _ h => h) (Or.inl ⟨by rfl, ?_⟩) (sK _ La2.out Lb2.out) ?_
              rotate_left
              · (intro wS hSw; (try dsimp only at hSw); go_simp; try with_reducible rfl)
              simp only [Act.put, List.getElem_toArray, List.getElem_cons_zero, List.getElem_cons_succ, List.setIfInBounds_toArray, List.set_cons_zero, List.set_cons_succ]
              refine wpAnyH_take (i := 19) (v := ?_) rfl (by kernel_rfl) (by kernel_rfl) (by kernel_rfl) (fun _ _ _ h => h) (Or.inl ⟨by rfl, ?_⟩) (sK _ La2.out Lb2.out) ?_
              rotate_left
              · (intro wS hSw; (try dsimp only at hSw); go_simp; try with_reducible rfl)
              simp only [Act.put, List.getElem_toArray, List.getElem_cons_zero, List.getElem_cons_succ, List.setIfInBounds_toArray, List.set_cons_zero, List.set_cons_succ]
              refine wpAnyH_ready (rs := [20]) (by kernel_rfl) (by simp) ?_
              refine AllReadyH.cons rfl (fun K hK => ?_) AllReadyH.nil
              go_simp
              refine (KZ.out _ E2.out).mono ?_
              rintro e r3 ⟨rfl, hb⟩
              have La3 := Lib.hid (Blk.next (w := r2) La2.out hb)
              have Lb3 := Lib.hid (Blk.next (w := r2) Lb2.out hb)
              have E3 := Lib.hid (E2.out.trans (hb.mono E2.out.size))
              clear hb
              go_wp2_with fail
              refine hK.out _ _ (sK _ La3.out Lb3.out) (fun hHeld => ?_)
              clear hK K hHeld
              try simp only [Act.put, List.getElem_toArray, List.getElem_cons_zero, List.getElem_cons_succ, List.setIfInBounds_toArray, List.set_cons_zero, List.set_cons_succ]
              refine wpAnyH_take (i := 21) (v := ?_) rfl (by kernel_rfl) (by kernel_rfl) (by kernel_rfl) (fun _ _ _ h => h) (Or.inl ⟨by rfl, ?_⟩) (sK _ La3.out Lb3.out) ?_
              rotate_left
              · (intro wS hSw; (try dsimp only at hSw); go_simp; try with_reducible rfl)
              simp only [Act.put, List.getElem_toArray, List.getElem_cons_zero, List.getElem_cons_succ, List.setIfInBounds_toArray, List.set_cons_zero, List.set_cons_succ]
              refine wpAnyH_take (i := 22) (v := ?_) rfl (by kernel_rfl) (by kernel_rfl) (by kernel_rfl) (fun _ _ _ h => h) (Or.inl ⟨by rfl, ?_⟩) (sK _ La3.out Lb3.out) ?_
              rotate_left
              · (intro wS hSw; (try dsimp only at hSw); go_simp; try with_reducible rfl)
              simp only [Act.put, List.getElem_toArray, List.getElem_cons_zero, List.getElem_cons_succ, List.setIfInBounds_toArray, List.set_cons_zero, List.set_cons_succ]
              refine wpAnyH_ready (rs := [23]) (by kernel_rfl) (by simp) ?_
              refine AllReadyH.cons rfl (fun K hK => ?_) AllReadyH.nil
              go_simp
              refine (alive_any _).mono ?_
              rintro e r4 ⟨rfl, hb⟩
              have La4 := Lib.hid (Blk.next (w := r3) La3.out hb)
              have Lb4 := Lib.hid (Blk.next (w := r3) Lb3.out hb)
              have E4 := Lib.hid (E3.out.trans (hb.mono E3.out.size))
              clear hb
              go_wp2_with fail
              refine hK.out _ _ (sK _ La4.out Lb4.out) (fun hHeld => ?_)
              clear hK K hHeld
              try simp only [Act.put, List.getElem_toArray, List.getElem_cons_zero, List.getElem_cons_succ, List.setIfInBounds_toArray, List.set_cons_zero, List.set_cons_succ]
              refine wpAnyH_take (i := 24) (v := ?_) rfl (by kernel_rfl) (by kernel_rfl) (by kernel_rfl) (fun _ _ _ h => h) (Or.inl ⟨by rfl, ?_⟩) (sK _ La4.out Lb4.out) ?_
              rotate_left
              · (intro wS hSw; (try dsimp only at hSw); go_simp; try with_reducible rfl)
              simp only [Act.put, List.getElem_toArray, List.getElem_cons_zero, List.getElem_cons_succ, List.setIfInBounds_toArray, List.set_cons_zero, List.set_cons_succ]
              refine wpAnyH_take (i := 25) (v := ?_) rfl (by kernel_rfl) (by kernel_rfl) (by kernel_rfl) (fun _ _ _ h => h) (Or.inl ⟨by rfl, ?_⟩) (sK _ La4.out Lb4.out) ?_
              rotate_left
              · (intro wS hSw; (try dsimp only at hSw); go_simp; try with_reducible rfl)
              simp only [Act.put, List.getElem_toArray, List.getElem_cons_zero, List.getElem_cons_succ, List.setIfInBounds_toArray, List.set_cons_zero, List.set_cons_succ]
              refine wpAnyH_done (by kernel_rfl) ?_ _
              go_wp2_with fail
              go_ret
              exact ⟨rfl, E4.out⟩
        · have hy2 : n ≤ n2 := by omega
          go_wp2_with fail
          go_loopw [10] (fun i wr => ∃ k : Nat, k ≤ n ∧ i = .int .i64 k ∧ ∃ q, wr = V.drewN q) (fun i _ => n - (intOf i).toNat)
          case atStart => exact ⟨0, by omega, rfl, _, rfl⟩
          case round =>
            obtain ⟨k, hk, rfl, q, rfl⟩ := hrel
            by_cases h : k < n
            · skip
              have h' : k < n ∧ k < n2 := by omega
              obtain ⟨b1, o1, rfl, _, h1⟩ := rdW_row HB.out (by omega)
              obtain ⟨b2, o2, rfl, _, h2⟩ := rdW_row HB2.out (by omega)
              have c1 : V.cell? ⟨b1, o1 + k, none⟩ = _ := h1 k h'.1
              have c2 : V.cell? ⟨b2, o2 + k, none⟩ = _ := h2 k h'.2
              have KB : ∀ q, RdW (V.drewN q) 4 shLeg _ n P ln cp v := fun q => RdW.kept OB.out (below_drewN EV.out q)
              have KB2 : ∀ q, RdW (V.drewN q) 4 shLeg _ n2 P2 ln2 cp2 v2 := fun q => RdW.kept OB2.out (below_drewN EV.out q)
              have hM : maxLen ≤ 9223372036854775807 := by decide
              have KC := Lib.hid (fun q => let l := rdW_at (KB q) h'.1; let m := rdW_at (KB2 q) h'.2; dlegs_eq (P k) (P2 k) (cp k) (cp2 k) (ln k) (ln2 k) (v k) (v2 k) (V.drewN q) l.2.2 m.2.2 (by omega) (by omega))
              have KD := Lib.hid (fun q => let l := rdW_at (KB q) h'.1; let m := rdW_at (KB2 q) h'.2; legs_eq (P k) (P2 k) (cp k) (cp2 k) (ln k) (ln2 k) (v k) (v2 k) (V.drewN q) l.2.2 m.2.2 (by omega) (by omega))
              clear h1 h2 KB KB2 hM
              obtain ⟨p1, hp1⟩ : ∃ x, P k = x := ⟨_, rfl⟩
              obtain ⟨p2, hp2⟩ : ∃ x, P2 k = x := ⟨_, rfl⟩
              obtain ⟨l1, hl1⟩ : ∃ x, ln k = x := ⟨_, rfl⟩
              obtain ⟨l2, hl2⟩ : ∃ x, ln2 k = x := ⟨_, rfl⟩
              obtain ⟨f1, hd1⟩ : ∃ x, cp k = x := ⟨_, rfl⟩
              obtain ⟨f2, hf2⟩ : ∃ x, cp2 k = x := ⟨_, rfl⟩
              obtain ⟨r, hr⟩ : ∃ x, sameV 4 l1 l2 (v k) (v2 k) = x := ⟨_, rfl⟩
              rw [hp1, hl1, hd1] at c1
              rw [hp2, hl2, hf2] at c2
              rw [hp1, hl1, hd1, hp2, hl2, hf2, hr] at KC KD
              have hrr : (r != r) = false := by simp
              clear hp1 hp2 hl1 hl2 hd1 hf2 hr
              go_wp2_with fail
              have sK : ∀ X : World, (∀ a, X.cell? a = V.cell? a) → (fun X : World => X.cell? ⟨g, 1, none⟩ = some (.slice (some ⟨b1, o1, none⟩) n d) ∧ X.cell? ⟨g + 1, 1, none⟩ = some (.slice (some ⟨b2, o2, none⟩) n2 d2) ∧ X.cell? ⟨b1, o1 + k, none⟩ = some (.slice p1 l1 f1) ∧ X.cell? ⟨b2, o2 + k, none⟩ = some (.slice p2 l2 f2)) X := fun X h => ⟨(h _).trans k1, (h _).trans k4, (h _).trans c1, (h _).trans c2⟩
              clear k1 k4 c1 c2
              refine wp_region_held_drew (S := (fun X : World => X.cell? ⟨g, 1, none⟩ = some (.slice (some ⟨b1, o1, none⟩) n d) ∧ X.cell? ⟨g + 1, 1, none⟩ = some (.slice (some ⟨b2, o2, none⟩) n2 d2) ∧ X.cell? ⟨b1, o1 + k, none⟩ = some (.slice p1 l1 f1) ∧ X.cell? ⟨b2, o2 + k, none⟩ = some (.slice p2 l2 f2))) (by kernel_rfl) (sK _ (fun _ => rfl)) (fun hHeld => ?_)
              clear hHeld
              refine wpAnyH_take (i := 0) (v := ?_) rfl (by kernel_rfl) (by kernel_rfl) (by kernel_rfl) (fun _ _ _ h => h) (Or.inl ⟨by rfl, ?_⟩) (sK _ (fun _ => rfl)) ?_
              rotate_left
              · (intro wS hSw; (try dsimp only at hSw); go_simp; try with_reducible rfl)
              simp only [Act.put, List.getElem_toArray, List.getElem_cons_zero, List.getElem_cons_succ, List.setIfInBounds_toArray, List.set_cons_zero, List.set_cons_succ]
              refine wpAnyH_take (i := 1) (v := ?_) rfl (by kernel_rfl) (by kernel_rfl) (by kernel_rfl) (fun _ _ _ h => h) (Or.inl ⟨by rfl, ?_⟩) (sK _ (fun _ => rfl)) ?_
              rotate_left
              · (intro wS hSw; (try dsimp only at hSw); go_simp; try with_reducible rfl)
              simp only [Act.put, List.getElem_toArray, List.getElem_cons_zero, List.getElem_cons_succ, List.setIfInBounds_toArray, List.set_cons_zero, List.set_cons_succ]
              refine wpAnyH_take (i := 2) (v := ?_) rfl (by kernel_rfl) (by kernel_rfl) (by kernel_rfl) (fun _ _ _ h => h) (Or.inl ⟨by rfl, ?_⟩) (sK _ (fun _ => rfl)) ?_
              rotate_left
              · (intro wS hSw; (try dsimp only at hSw); go_simp; try with_reducible rfl)
              simp only [Act.put, List.getElem_toArray, List.getElem_cons_zero, List.getElem_cons_succ, List.setIfInBounds_toArray, List.set_cons_zero, List.set_cons_succ]
              refine wpAnyH_take (i := 3) (v := ?_) rfl (by kernel_rfl) (by kernel_rfl) (by kernel_rfl) (fun _ _ _ h => h) (Or.inl ⟨by rfl, ?_⟩) (sK _ (fun _ => rfl)) ?_
              rotate_left
              · (intro wS hSw; (try dsimp only at hSw); go_simp; try with_reducible rfl)
              simp only [Act.put, List.getElem_toArray, List.getElem_cons_zero, List.getElem_cons_succ, List.setIfInBounds_toArray, List.set_cons_zero, List.set_cons_succ]
              refine wpAnyH_take (i := 4) (v := ?_) rfl (by kernel_rfl) (by kernel_rfl) (by kernel_rfl) (fun _ _ _ h => h) (Or.inl ⟨by rfl, ?_⟩) (sK _ (fun _ => rfl)) ?_
              rotate_left
              · (intro wS hSw; (try dsimp only at hSw); go_simp; try with_reducible rfl)
              simp only [Act.put, List.getElem_toArray, List.getElem_cons_zero, List.getElem_cons_succ, List.setIfInBounds_toArray, List.set_cons_zero, List.set_cons_succ]
              refine wpAnyH_take (i := 5) (v := ?_) rfl (by kernel_rfl) (by kernel_rfl) (by kernel_rfl) (fun _ _ _ h => h) (Or.inl ⟨by rfl, ?_⟩) (sK _ (fun _ => rfl)) ?_
              rotate_left
              · (intro wS hSw; (try dsimp only at hSw); go_simp; try with_reducible rfl)
              simp only [Act.put, List.getElem_toArray, List.getElem_cons_zero, List.getElem_cons_succ, List.setIfInBounds_toArray, List.set_cons_zero, List.set_cons_succ]
              refine wpAnyH_take (i := 6) (v := ?_) rfl (by kernel_rfl) (by kernel_rfl) (by kernel_rfl) (fun _ _ _ h => h) (Or.inl ⟨by rfl, ?_⟩) (sK _ (fun _ => rfl)) ?_
              rotate_left
              · (intro wS hSw; (try dsimp only at hSw); go_simp; try with_reducible rfl)
              simp only [Act.put, List.getElem_toArray, List.getElem_cons_zero, List.getElem_cons_succ, List.setIfInBounds_toArray, List.set_cons_zero, List.set_cons_succ]
              refine wpAnyH_take (i := 7) (v := ?_) rfl (by kernel_rfl) (by kernel_rfl) (by kernel_rfl) (fun _ _ _ h => h) (Or.inl ⟨by rfl, ?_⟩) (sK _ (fun _ => rfl)) ?_
              rotate_left
              · (intro wS hSw; (try dsimp only at hSw); go_simp; try with_reducible rfl)
              simp only [Act.put, List.getElem_toArray, List.getElem_cons_zero, List.getElem_cons_succ, List.setIfInBounds_toArray, List.set_cons_zero, List.set_cons_succ]
              refine wpAnyH_take (i := 8) (v := ?_) rfl (by kernel_rfl) (by kernel_rfl) (by kernel_rfl) (fun _ _ _ h => h) (Or.inl ⟨by rfl, ?_⟩) (sK _ (fun _ => rfl)) ?_
              rotate_left
              · (intro wS hSw; (try dsimp only at hSw); go_simp; try with_reducible rfl)
              simp only [Act.put, List.getElem_toArray, List.getElem_cons_zero, List.getElem_cons_succ, List.setIfInBounds_toArray, List.set_cons_zero, List.set_cons_succ]
              refine wpAnyH_take (i := 9) (v := ?_) rfl (by kernel_rfl) (by kernel_rfl) (by kernel_rfl) (fun _ _ _ h => h) (Or.inl ⟨by rfl, ?_⟩) (sK _ (fun _ => rfl)) ?_
              rotate_left
              · (intro wS hSw; (try dsimp only at hSw); go_simp; try with_reducible rfl)
              simp only [Act.put, List.getElem_toArray, List.getElem_cons_zero, List.getElem_cons_succ, List.setIfInBounds_toArray, List.set_cons_zero, List.set_cons_succ]
              refine wpAnyH_take (i := 11) (v := ?_) rfl (by kernel_rfl) (by kernel_rfl) (by kernel_rfl) (fun _ _ _ h => h) (Or.inl ⟨by rfl, ?_⟩) (sK _ (fun _ => rfl)) ?_
              rotate_left
              · (intro wS hSw; (try dsimp only at hSw); go_simp; try with_reducible rfl)
              simp only [Act.put, List.getElem_toArray, List.getElem_cons_zero, List.getElem_cons_succ, List.setIfInBounds_toArray, List.set_cons_zero, List.set_cons_succ]
              refine wpAnyH_take (i := 12) (v := ?_) rfl (by kernel_rfl) (by kernel_rfl) (by kernel_rfl) (fun _ _ _ h => h) (Or.inl ⟨by rfl, ?_⟩) (sK _ (fun _ => rfl)) ?_
              rotate_left
              · (intro wS hSw; (try dsimp only at hSw); go_simp; try with_reducible rfl)
              simp only [Act.put, List.getElem_toArray, List.getElem_cons_zero, List.getElem_cons_succ, List.setIfInBounds_toArray, List.set_cons_zero, List.set_cons_succ]
              refine wpAnyH_take (i := 13) (v := ?_) rfl (by kernel_rfl) (by kernel_rfl) (by kernel_rfl) (fun _ _ _ h => h) (Or.inl ⟨by rfl, ?_⟩) (sK _ (fun _ => rfl)) ?_
              rotate_left
              · (intro wS hSw; (try dsimp only at hSw); go_simp; try with_reducible rfl)
              simp only [Act.put, List.getElem_toArray, List.getElem_cons_zero, List.getElem_cons_succ, List.setIfInBounds_toArray, List.set_cons_zero, List.set_cons_succ]
              refine wpAnyH_take (i := 14) (v := ?_) rfl (by kernel_rfl) (by kernel_rfl) (by kernel_rfl) (fun _ _ _ h => h) (Or.inl ⟨by rfl, ?_⟩) (sK _ (fun _ => rfl)) ?_
              rotate_left
              · (intro wS hSw; (try dsimp only at hSw); go_simp; try with_reducible rfl)
              simp only [Act.put, List.getElem_toArray, List.getElem_cons_zero, List.getElem_cons_succ, List.setIfInBounds_toArray, List.set_cons_zero, List.set_cons_succ]
              refine wpAnyH_take (i := 15) (v := ?_) rfl (by kernel_rfl) (by kernel_rfl) (by kernel_rfl) (fun _ _ _ h => h) (Or.inl ⟨by rfl, ?_⟩) (sK _ (fun _ => rfl)) ?_
              rotate_left
              · (intro wS hSw; (try dsimp only at hSw); go_simp; try with_reducible rfl)
              simp only [Act.put, List.getElem_toArray, List.getElem_cons_zero, List.getElem_cons_succ, List.setIfInBounds_toArray, List.set_cons_zero, List.set_cons_succ]
              refine wpAnyH_take (i := 16) (v := ?_) rfl (by kernel_rfl) (by kernel_rfl) (by kernel_rfl) (fun _ _ _ h => h) (Or.inl ⟨by rfl, ?_⟩) (sK _ (fun _ => rfl)) ?_
              rotate_left
              · (intro wS hSw; (try dsimp only at hSw); go_simp; try with_reducible rfl)
              simp only [Act.put, List.getElem_toArray, List.getElem_cons_zero, List.getElem_cons_succ, List.setIfInBounds_toArray, List.set_cons_zero, List.set_cons_succ]
              refine wpAnyH_take (i := 17) (v := ?_) rfl (by kernel_rfl) (by kernel_rfl) (by kernel_rfl) (fun _ _ _ h => h) (Or.inl ⟨by rfl, ?_⟩) (sK _ (fun _ => rfl)) ?_
              rotate_left
              · (intro wS hSw; (try dsimp only at hSw); go_simp; try with_reducible rfl)
              simp only [Act.put, List.getElem_toArray, List.getElem_cons_zero, List.getElem_cons_succ, List.setIfInBounds_toArray, List.set_cons_zero, List.set_cons_succ]
              refine wpAnyH_take (i := 18) (v := ?_) rfl (by kernel_rfl) (by kernel_rfl) (by kernel_rfl) (fun _ _ _ h => h) (Or.inl ⟨by rfl, ?_⟩) (sK _ (fun _ => rfl)) ?_
              rotate_left
              · (intro wS hSw; (try dsimp only at hSw); go_simp; try with_reducible rfl)
              simp only [Act.put, List.getElem_toArray, List.getElem_cons_zero, List.getElem_cons_succ, List.setIfInBounds_toArray, List.set_cons_zero, List.set_cons_succ]
              refine wpAnyH_take (i := 19) (v := ?_) rfl (by kernel_rfl) (by kernel_rfl) (by kernel_rfl) (fun _ _ _ h => h) (Or.inl ⟨by rfl, ?_⟩) (sK _ (fun _ => rfl)) ?_
              rotate_left
              · (intro wS hSw; (try dsimp only at hSw); go_simp; try with_reducible rfl)
              simp only [Act.put, List.getElem_toArray, List.getElem_cons_zero, List.getElem_cons_succ, List.setIfInBounds_toArray, List.set_cons_zero, List.set_cons_succ]
              refine wpAnyH_take (i := 20) (v := ?_) rfl (by kernel_rfl) (by kernel_rfl) (by kernel_rfl) (fun _ _ _ h => h) (Or.inl ⟨by rfl, ?_⟩) (sK _ (fun _ => rfl)) ?_
              rotate_left
              · (intro wS hSw; (try dsimp only at hSw); go_simp; try with_reducible rfl)
              simp only [Act.put, List.getElem_toArray, List.getElem_cons_zero, List.getElem_cons_succ, List.setIfInBounds_toArray, List.set_cons_zero, List.set_cons_succ]
              refine wpAnyH_ready (rs := [10]) (by kernel_rfl) (by simp) ?_
              refine AllReadyH.cons rfl (fun K hK => ?_) AllReadyH.nil
              go_simp
              refine (KC.out (q + 1)).mono ?_
              rintro e r1 ⟨rfl, x1, rfl⟩
              go_wp2_with fail
              refine hK.out _ _ (sK _ (fun _ => rfl)) (fun hHeld => ?_)
              clear hK K hHeld
              try simp only [Act.put, List.getElem_toArray, List.getElem_cons_zero, List.getElem_cons_succ, List.setIfInBounds_toArray, List.set_cons_zero, List.set_cons_succ]
              refine wpAnyH_ready (rs := [21]) (by kernel_rfl) (by simp) ?_
              refine AllReadyH.cons rfl (fun K hK => ?_) AllReadyH.nil
              go_simp
              refine (KD.out (q + 1 + x1)).mono ?_
              rintro e r1 ⟨rfl, x2, rfl⟩
              go_wp2_with fail
              refine hK.out _ _ (sK _ (fun _ => rfl)) (fun hHeld => ?_)
              clear hK K hHeld
              try simp only [Act.put, List.getElem_toArray, List.getElem_cons_zero, List.getElem_cons_succ, List.setIfInBounds_toArray, List.set_cons_zero, List.set_cons_succ]
              refine wpAnyH_take (i := 22) (v := ?_) rfl (by kernel_rfl) (by kernel_rfl) (by kernel_rfl) (fun _ _ _ h => h) (Or.inl ⟨by rfl, ?_⟩) (sK _ (fun _ => rfl)) ?_
              rotate_left
              · (intro wS hSw; (try dsimp only at hSw); go_simp; try with_reducible rfl)
              simp only [Act.put, List.getElem_toArray, List.getElem_cons_zero, List.getElem_cons_succ, List.setIfInBounds_toArray, List.set_cons_zero, List.set_cons_succ]
              refine wpAnyH_done (by kernel_rfl) ?_ _
              go_wp2_with fail
              go_roundw
              case rel => exact ⟨k + 1, by omega, by go_num, _, by first | rfl | exact World.drewN_drewN ..⟩
              case measure => simp [intOf]; omega
            · skip
              go_wp2_with fail
              clear k0 k1 k2 k3 k4 k5
              have E9 := below_drewN EV.out q
              have B9 := Blk.next (w := V) LA2.out (below_drewN (Below.refl _ _) q)
              have C9 := Blk.next (w := V) LB2.out (below_drewN (Below.refl _ _) q)
              obtain ⟨V9, hV9⟩ : ∃ X, V.drewN q = X := ⟨_, rfl⟩
              rw [hV9] at E9 B9 C9 ⊢
              clear hV9
              have EE := Lib.hid E9
              have Ha := Lib.hid B9
              have Hb := Lib.hid C9
              clear E9 B9 C9
              obtain ⟨rr, hrr⟩ : ∃ r, sameL u u2 nt nt2 z z2 n n2 ln ln2 v v2 = r := ⟨_, rfl⟩
              have KS : ∀ X, Below w.heap.size w X → _ := fun X hX => dsame_any T T2 A A2 ct ct2 d d2 nt nt2 n n2 u u2 z z2 P P2 ln ln2 cp cp2 v v2 X (RdZ.kept OA.out hX) (RdZ.kept OA2.out hX) (RdW.kept OB.out hX) (RdW.kept OB2.out hX) (by omega) (by omega) (by omega) (by omega)
              have KW : ∀ X, Below w.heap.size w X → _ := fun X hX => wsame_any T T2 A A2 ct ct2 d d2 nt nt2 n n2 u u2 z z2 P P2 ln ln2 cp cp2 v v2 X (RdZ.kept OA.out hX) (RdZ.kept OA2.out hX) (RdW.kept OB.out hX) (RdW.kept OB2.out hX) (by omega) (by omega) (by omega) (by omega)
              have KZ : ∀ X, Below w.heap.size w X → _ := fun X hX => dsame_any T T A A ct ct d d nt nt n n u u z z P P ln ln cp cp v v X (RdZ.kept OA.out hX) (RdZ.kept OA.out hX) (RdW.kept OB.out hX) (RdW.kept OB.out hX) (by omega) (by omega) (by omega) (by omega)
              rw [hrr] at KS KW
              rw [sameL_self] at KZ
              have hr1 : (rr == rr) = true := by simp
              have hc1 : (c == c) = true := by simp
              have hz1 : ((i : Int) == (i : Int)) = true := by simp
              clear hrr
              have KS := Lib.hid KS; have KW := Lib.hid KW; have KZ := Lib.hid KZ
              have ka0 : V9.cell? ⟨g, 0, none⟩ = some (.slice T nt ct) := Ha.out.cell 0
              have ka1 : V9.cell? ⟨g, 1, none⟩ = some (.slice A n d) := Ha.out.cell 1
              have ka2 : V9.cell? ⟨g, 2, none⟩ = some (.int .i64 u) := Ha.out.cell 2
              have kb0 : V9.cell? ⟨g + 1, 0, none⟩ = some (.slice T2 nt2 ct2) := Hb.out.cell 0
              have kb1 : V9.cell? ⟨g + 1, 1, none⟩ = some (.slice A2 n2 d2) := Hb.out.cell 1
              have kb2 : V9.cell? ⟨g + 1, 2, none⟩ = some (.int .i64 u2) := Hb.out.cell 2
              go_wp2_with fail
              have sK : ∀ X, Blk X (g) 25 #[.slice T nt ct, .slice A n d, .int .i64 u] → Blk X (g + 1) 25 #[.slice T2 nt2 ct2, .slice A2 n2 d2, .int .i64 u2] → (fun X => X.cell? ⟨g, 0, none⟩ = some (.slice T nt ct) ∧ X.cell? ⟨g, 1, none⟩ = some (.slice A n d) ∧ X.cell? ⟨g, 2, none⟩ = some (.int .i64 u) ∧ X.cell? ⟨g + 1, 0, none⟩ = some (.slice T2 nt2 ct2) ∧ X.cell? ⟨g + 1, 1, none⟩ = some (.slice A2 n2 d2) ∧ X.cell? ⟨g + 1, 2, none⟩ = some (.int .i64 u2)) X := fun X ha hb => ⟨ha.cell 0, ha.cell 1, ha.cell 2, hb.cell 0, hb.cell 1, hb.cell 2⟩
              have La0 := Lib.hid (Ha.out.drew)
              have Lb0 := Lib.hid (Hb.out.drew)
              have E0 := Lib.hid (EE.out.drew)
              clear ka0 ka1 ka2 kb0 kb1 kb2
              refine wp_region_held_drew (S := (fun X => X.cell? ⟨g, 0, none⟩ = some (.slice T nt ct) ∧ X.cell? ⟨g, 1, none⟩ = some (.slice A n d) ∧ X.cell? ⟨g, 2, none⟩ = some (.int .i64 u) ∧ X.cell? ⟨g + 1, 0, none⟩ = some (.slice T2 nt2 ct2) ∧ X.cell? ⟨g + 1, 1, none⟩ = some (.slice A2 n2 d2) ∧ X.cell? ⟨g + 1, 2, none⟩ = some (.int .i64 u2))) (by kernel_rfl) (sK _ La0.out Lb0.out) (fun hHeld => ?_)
              clear hHeld
              refine wpAnyH_take (i := 0) (v := ?_) rfl (by kernel_rfl) (by kernel_rfl) (by kernel_rfl) (fun _ _ _ h => h) (Or.inl ⟨by rfl, ?_⟩) (sK _ La0.out Lb0.out) ?_
              rotate_left
              · (intro wS hSw; (try dsimp only at hSw); go_simp; try with_reducible rfl)
              simp only [Act.put, List.getElem_toArray, List.getElem_cons_zero, List.getElem_cons_succ, List.setIfInBounds_toArray, List.set_cons_zero, List.set_cons_succ]
              refine wpAnyH_take (i := 1) (v := ?_) rfl (by kernel_rfl) (by kernel_rfl) (by kernel_rfl) (fun _ _ _ h => h) (Or.inl ⟨by rfl, ?_⟩) (sK _ La0.out Lb0.out) ?_
              rotate_left
              · (intro wS hSw; (try dsimp only at hSw); go_simp; try with_reducible rfl)
              simp only [Act.put, List.getElem_toArray, List.getElem_cons_zero, List.getElem_cons_succ, List.setIfInBounds_toArray, List.set_cons_zero, List.set_cons_succ]
              refine wpAnyH_take (i := 2) (v := ?_) rfl (by kernel_rfl) (by kernel_rfl) (by kernel_rfl) (fun _ _ _ h => h) (Or.inl ⟨by rfl, ?_⟩) (sK _ La0.out Lb0.out) ?_
              rotate_left
              · (intro wS hSw; (try dsimp only at hSw); go_simp; try with_reducible rfl)
              simp only [Act.put, List.getElem_toArray, List.getElem_cons_zero, List.getElem_cons_succ, List.setIfInBounds_toArray, List.set_cons_zero, List.set_cons_succ]
              refine wpAnyH_take (i := 3) (v := ?_) rfl (by kernel_rfl) (by kernel_rfl) (by kernel_rfl) (fun _ _ _ h => h) (Or.inl ⟨by rfl, ?_⟩) (sK _ La0.out Lb0.out) ?_
              rotate_left
              · (intro wS hSw; (try dsimp only at hSw); go_simp; try with_reducible rfl)
              simp only [Act.put, List.getElem_toArray, List.getElem_cons_zero, List.getElem_cons_succ, List.setIfInBounds_toArray, List.set_cons_zero, List.set_cons_succ]
              refine wpAnyH_take (i := 4) (v := ?_) rfl (by kernel_rfl) (by kernel_rfl) (by kernel_rfl) (fun _ _ _ h => h) (Or.inl ⟨by rfl, ?_⟩) (sK _ La0.out Lb0.out) ?_
              rotate_left
              · (intro wS hSw; (try dsimp only at hSw); go_simp; try with_reducible rfl)
              simp only [Act.put, List.getElem_toArray, List.getElem_cons_zero, List.getElem_cons_succ, List.setIfInBounds_toArray, List.set_cons_zero, List.set_cons_succ]
              refine wpAnyH_take (i := 5) (v := ?_) rfl (by kernel_rfl) (by kernel_rfl) (by kernel_rfl) (fun _ _ _ h => h) (Or.inl ⟨by rfl, ?_⟩) (sK _ La0.out Lb0.out) ?_
              rotate_left
              · (intro wS hSw; (try dsimp only at hSw); go_simp; try with_reducible rfl)
              simp only [Act.put, List.getElem_toArray, List.getElem_cons_zero, List.getElem_cons_succ, List.setIfInBounds_toArray, List.set_cons_zero, List.set_cons_succ]
              refine wpAnyH_take (i := 6) (v := ?_) rfl (by kernel_rfl) (by kernel_rfl) (by kernel_rfl) (fun _ _ _ h => h) (Or.inl ⟨by rfl, ?_⟩) (sK _ La0.out Lb0.out) ?_
              rotate_left
              · (intro wS hSw; (try dsimp only at hSw); go_simp; try with_reducible rfl)
              simp only [Act.put, List.getElem_toArray, List.getElem_cons_zero, List.getElem_cons_succ, List.setIfInBounds_toArray, List.set_cons_zero, List.set_cons_succ]
              refine wpAnyH_take (i := 7) (v := ?_) rfl (by kernel_rfl) (by kernel_rfl) (by kernel_rfl) (fun _ _ _ h => h) (Or.inl ⟨by rfl, ?_⟩) (sK _ La0.out Lb0.out) ?_
              rotate_left
              · (intro wS hSw; (try dsimp only at hSw); go_simp; try with_reducible rfl)
              simp only [Act.put, List.getElem_toArray, List.getElem_cons_zero, List.getElem_cons_succ, List.setIfInBounds_toArray, List.set_cons_zero, List.set_cons_succ]
              refine wpAnyH_take (i := 8) (v := ?_) rfl (by kernel_rfl) (by kernel_rfl) (by kernel_rfl) (fun _ _ _ h => h) (Or.inl ⟨by rfl, ?_⟩) (sK _ La0.out Lb0.out) ?_
              rotate_left
              · (intro wS hSw; (try dsimp only at hSw); go_simp; try with_reducible rfl)
              simp only [Act.put, List.getElem_toArray, List.getElem_cons_zero, List.getElem_cons_succ, List.setIfInBounds_toArray, List.set_cons_zero, List.set_cons_succ]
              refine wpAnyH_take (i := 9) (v := ?_) rfl (by kernel_rfl) (by kernel_rfl) (by kernel_rfl) (fun _ _ _ h => h) (Or.inl ⟨by rfl, ?_⟩) (sK _ La0.out Lb0.out) ?_
              rotate_left
              · (intro wS hSw; (try dsimp only at hSw); go_simp; try with_reducible rfl)
              simp only [Act.put, List.getElem_toArray, List.getElem_cons_zero, List.getElem_cons_succ, List.setIfInBounds_toArray, List.set_cons_zero, List.set_cons_succ]
              refine wpAnyH_take (i := 10) (v := ?_) rfl (by kernel_rfl) (by kernel_rfl) (by kernel_rfl) (fun _ _ _ h => h) (Or.inl ⟨by rfl, ?_⟩) (sK _ La0.out Lb0.out) ?_
              rotate_left
              · (intro wS hSw; (try dsimp only at hSw); go_simp; try with_reducible rfl)
              simp only [Act.put, List.getElem_toArray, List.getElem_cons_zero, List.getElem_cons_succ, List.setIfInBounds_toArray, List.set_cons_zero, List.set_cons_succ]
              refine wpAnyH_take (i := 12) (v := ?_) rfl (by kernel_rfl) (by kernel_rfl) (by kernel_rfl) (fun _ _ _ h => h) (Or.inl ⟨by rfl, ?_⟩) (sK _ La0.out Lb0.out) ?_
              rotate_left
              · (intro wS hSw; (try dsimp only at hSw); go_simp; try with_reducible rfl)
              simp only [Act.put, List.getElem_toArray, List.getElem_cons_zero, List.getElem_cons_succ, List.setIfInBounds_toArray, List.set_cons_zero, List.set_cons_succ]
              refine wpAnyH_take (i := 13) (v := ?_) rfl (by kernel_rfl) (by kernel_rfl) (by kernel_rfl) (fun _ _ _ h => h) (Or.inl ⟨by rfl, ?_⟩) (sK _ La0.out Lb0.out) ?_
              rotate_left
              · (intro wS hSw; (try dsimp only at hSw); go_simp; try with_reducible rfl)
              simp only [Act.put, List.getElem_toArray, List.getElem_cons_zero, List.getElem_cons_succ, List.setIfInBounds_toArray, List.set_cons_zero, List.set_cons_succ]
              refine wpAnyH_ready (rs := [11]) (by kernel_rfl) (by simp) ?_
              refine AllReadyH.cons rfl (fun K hK => ?_) AllReadyH.nil
              go_simp
              refine (KS.out _ E0.out).mono ?_
              rintro e r1 ⟨rfl, hb⟩
              have La1 := Lib.hid (Blk.next (w := V9.drew) La0.out hb)
              have Lb1 := Lib.hid (Blk.next (w := V9.drew) Lb0.out hb)
              have E1 := Lib.hid (E0.out.trans (hb.mono E0.out.size))
              clear hb
              go_wp2_with fail
              refine hK.out _ _ (sK _ La1.out Lb1.out) (fun hHeld => ?_)
              clear hK K hHeld
              try simp only [Act.put, List.getElem_toArray, List.getElem_cons_zero, List.getElem_cons_succ, List.setIfInBounds_toArray, List.set_cons_zero, List.set_cons_succ]
              refine wpAnyH_ready (rs := [14]) (by kernel_rfl) (by simp) ?_
              refine AllReadyH.cons rfl (fun K hK => ?_) AllReadyH.nil
              go_simp
              refine (KW.out _ E1.out).mono ?_
              rintro e r2 ⟨rfl, hb⟩
              have La2 := Lib.hid (Blk.next (w := r1) La1.out hb)
              have Lb2 := Lib.hid (Blk.next (w := r1) Lb1.out hb)
              have E2 := Lib.hid (E1.out.trans (hb.mono E1.out.size))
              clear hb
              go_wp2_with fail
              refine hK.out _ _ (sK _ La2.out Lb2.out) (fun hHeld => ?_)
              clear hK K hHeld
              try simp only [Act.put, List.getElem_toArray, List.getElem_cons_zero, List.getElem_cons_succ, List.setIfInBounds_toArray, List.set_cons_zero, List.set_cons_succ]
              refine wpAnyH_take (i := 15) (v := ?_) rfl (by kernel_rfl) (by kernel_rfl) (by kernel_rfl) (fun _ _ _ h => h) (Or.inl ⟨by rfl, ?_⟩) (sK _ La2.out Lb2.out) ?_
              rotate_left
              · (intro wS hSw; (try dsimp only at hSw); go_simp; try with_reducible rfl)
              simp only [Act.put, List.getElem_toArray, List.getElem_cons_zero, List.getElem_cons_succ, List.setIfInBounds_toArray, List.set_cons_zero, List.set_cons_succ]
              refine wpAnyH_take (i := 16) (v := ?_) rfl (by kernel_rfl) (by kernel_rfl) (by kernel_rfl) (fun _ _ _ h => h) (Or.inl ⟨by rfl, ?_⟩) (sK _ La2.out Lb2.out) ?_
              rotate_left
              · (intro wS hSw; (try dsimp only at hSw); go_simp; try with_reducible rfl)
              simp only [Act.put, List.getElem_toArray, List.getElem_cons_zero, List.getElem_cons_succ, List.setIfInBounds_toArray, List.set_cons_zero, List.set_cons_succ]
              refine wpAnyH_take (i := 17) (v := ?_) rfl (by kernel_rfl) (by kernel_rfl) (by kernel_rfl) (fun _ _ _ h => h) (Or.inl ⟨by rfl, ?_⟩) (sK _ La2.out Lb2.out) ?_
              rotate_left
              · (intro wS hSw; (try dsimp only at hSw); go_simp; try with_reducible rfl)
              simp only [Act.put, List.getElem_toArray, List.getElem_cons_zero, List.getElem_cons_succ, List.setIfInBounds_toArray, List.set_cons_zero, List.set_cons_succ]
              refine wpAnyH_take (i := 18) (v := ?_) rfl (by kernel_rfl) (by kernel_rfl) (by kernel_rfl) (fun _ _ _ h => h) (Or.inl ⟨by rfl, ?_⟩) (sK _ La2.out Lb2.out) ?_
              rotate_left
              · (intro wS hSw; (try dsimp only at hSw); go_simp; try with_reducible rfl)
              simp only [Act.put, List.getElem_toArray, List.getElem_cons_zero, List.getElem_cons_succ, List.setIfInBounds_toArray, List.set_cons_zero, List.set_cons_succ]
              refine wpAnyH_take (i := 19) (v := ?_) rfl (by kernel_rfl) (by kernel_rfl) (by kernel_rfl) (fun _ _ _ h => h) (Or.inl ⟨by rfl, ?_⟩) (sK _ La2.out Lb2.out) ?_
              rotate_left
              · (intro wS hSw; (try dsimp only at hSw); go_simp; try with_reducible rfl)
              simp only [Act.put, List.getElem_toArray, List.getElem_cons_zero, List.getElem_cons_succ, List.setIfInBounds_toArray, List.set_cons_zero, List.set_cons_succ]
              refine wpAnyH_ready (rs := [20]) (by kernel_rfl) (by simp) ?_
              refine AllReadyH.cons rfl (fun K hK => ?_) AllReadyH.nil
              go_simp
              refine (KZ.out _ E2.out).mono ?_
              rintro e r3 ⟨rfl, hb⟩
              have La3 := Lib.hid (Blk.next (w := r2) La2.out hb)
              have Lb3 := Lib.hid (Blk.next (w := r2) Lb2.out hb)
              have E3 := Lib.hid (E2.out.trans (hb.mono E2.out.size))
              clear hb
              go_wp2_with fail
              refine hK.out _ _ (sK _ La3.out Lb3.out) (fun hHeld => ?_)
              clear hK K hHeld
              try simp only [Act.put, List.getElem_toArray, List.getElem_cons_zero, List.getElem_cons_succ, List.setIfInBounds_toArray, List.set_cons_zero, List.set_cons_succ]
              refine wpAnyH_take (i := 21) (v := ?_) rfl (by kernel_rfl) (by kernel_rfl) (by kernel_rfl) (fun _ _ _ h => h) (Or.inl ⟨by rfl, ?_⟩) (sK _ La3.out Lb3.out) ?_
              rotate_left
              · (intro wS hSw; (try dsimp only at hSw); go_simp; try with_reducible rfl)
              simp only [Act.put, List.getElem_toArray, List.getElem_cons_zero, List.getElem_cons_succ, List.setIfInBounds_toArray, List.set_cons_zero, List.set_cons_succ]
              refine wpAnyH_take (i := 22) (v := ?_) rfl (by kernel_rfl) (by kernel_rfl) (by kernel_rfl) (fun _ _ _ h => h) (Or.inl ⟨by rfl, ?_⟩) (sK _ La3.out Lb3.out) ?_
              rotate_left
              · (intro wS hSw; (try dsimp only at hSw); go_simp; try with_reducible rfl)
              simp only [Act.put, List.getElem_toArray, List.getElem_cons_zero, List.getElem_cons_succ, List.setIfInBounds_toArray, List.set_cons_zero, List.set_cons_succ]
              refine wpAnyH_ready (rs := [23]) (by kernel_rfl) (by simp) ?_
              refine AllReadyH.cons rfl (fun K hK => ?_) AllReadyH.nil
              go_simp
              refine (alive_any _).mono ?_
              rintro e r4 ⟨rfl, hb⟩
              have La4 := Lib.hid (Blk.next (w := r3) La3.out hb)
              have Lb4 := Lib.hid (Blk.next (w := r3) Lb3.out hb)
              have E4 := Lib.hid (E3.out.trans (hb.mono E3.out.size))
              clear hb
              go_wp2_with fail
              refine hK.out _ _ (sK _ La4.out Lb4.out) (fun hHeld => ?_)
              clear hK K hHeld
              try simp only [Act.put, List.getElem_toArray, List.getElem_cons_zero, List.getElem_cons_succ, List.setIfInBounds_toArray, List.set_cons_zero, List.set_cons_succ]
              refine wpAnyH_take (i := 24) (v := ?_) rfl (by kernel_rfl) (by kernel_rfl) (by kernel_rfl) (fun _ _ _ h => h) (Or.inl ⟨by rfl, ?_⟩) (sK _ La4.out Lb4.out) ?_
              rotate_left
              · (intro wS hSw; (try dsimp only at hSw); go_simp; try with_reducible rfl)
              simp only [Act.put, List.getElem_toArray, List.getElem_cons_zero, List.getElem_cons_succ, List.setIfInBounds_toArray, List.set_cons_zero, List.set_cons_succ]
              refine wpAnyH_take (i := 25) (v := ?_) rfl (by kernel_rfl) (by kernel_rfl) (by kernel_rfl) (fun _ _ _ h => h) (Or.inl ⟨by rfl, ?_⟩) (sK _ La4.out Lb4.out) ?_
              rotate_left
              · (intro wS hSw; (try dsimp only at hSw); go_simp; try with_reducible rfl)
              simp only [Act.put, List.getElem_toArray, List.getElem_cons_zero, List.getElem_cons_succ, List.setIfInBounds_toArray, List.set_cons_zero, List.set_cons_succ]
              refine wpAnyH_done (by kernel_rfl) ?_ _
              go_wp2_with fail
              go_ret
              exact ⟨rfl, E4.out⟩


end Go.Proofs.Ytnjdeikikdieoaa.diffLogs
