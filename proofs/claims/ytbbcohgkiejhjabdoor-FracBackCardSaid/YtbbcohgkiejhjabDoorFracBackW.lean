/- The walk of FracBack: it answers true for every input, and leaves all old blocks as they were. No condition but the laid tables, which are tied to the text. -/
import Derived.Test.YtbbcohgkiejhjabDoorRows
import Derived.Test.YtbbcohgkiejhjabDoorRowKit
import Derived.Test.YtbbcohgkiejhjabDoorFracA
import Derived.Test.YtbbcohgkiejhjabDoorFracB
import Derived.Test.YtbbcohgkiejhjabDoorFracE
import Derived.WalkKit
import Derived.ProofKit
import Derived.OpenShut
import Derived.Deep.QuietTactic
import Derived.BigQuiet
import Derived.Lib.SmallJoins
import Derived.Lib.Hide
import Derived.WalkSpells
import Derived.WalkLawsBesides
import Derived.IntWalk
import Derived.Deep.WholeRow
import Derived.Laws.CopyOwn
import Derived.Deep.RegionHeld3
namespace Go.Proofs.YtbbcohgkiejhjabDoor.fracBack
open Go.ChangeShapes Go.WideShapes Go.ChangeAt Go.RowKit Go.Joins
set_option linter.unusedSimpArgs false
set_option linter.unusedVariables false

theorem blk_of {w w1 : World} {c : Array Value} {t : TypeId} (hb : Below (w.alloc (.cells c t)).heap.size (w.alloc (.cells c t)) w1) :
    w1.heap[w.heap.size]? = some (.cells c t) ∧ w.heap.size + 1 ≤ w1.heap.size ∧ Below w.heap.size w w1 :=
  ⟨(hb.block w.heap.size (by simp)).trans (heap_alloc_last w _), by have := hb.size; simpa using this, ((Below.refl _ _).alloc (Nat.le_refl _) _).trans (hb.mono (by simp))⟩
theorem psum_lo (zs : List Int) (L : Int) : ∀ k : Nat, k ≤ zs.length → (∀ j, j < k → L ≤ zat zs j) → k * L ≤ psum zs k
  | 0, _, _ => by rw [psum_zero]; simp
  | k + 1, hk, h => by
    have := psum_lo zs L k (by omega) (fun j hj => h j (by omega))
    have := h k (by omega)
    rw [psum_succ zs k (by omega), Int.natCast_add, Int.add_mul]; omega
theorem psum_hi (zs : List Int) (L : Int) : ∀ k : Nat, k ≤ zs.length → (∀ j, j < k → zat zs j ≤ L) → psum zs k ≤ k * L
  | 0, _, _ => by rw [psum_zero]; simp
  | k + 1, hk, h => by
    have := psum_hi zs L k (by omega) (fun j hj => h j (by omega))
    have := h k (by omega)
    rw [psum_succ zs k (by omega), Int.natCast_add, Int.add_mul]; omega
def Ends (zs : List Int) (k : Nat) (L H : Int) : Prop := (∀ j, j < k → L ≤ zat zs j ∧ zat zs j ≤ H ∧ 0 ≤ zat zs j)
theorem ends_next {zs : List Int} {k : Nat} {L H : Int} (h : Ends zs k L H) (hz : 0 ≤ zat zs k) : Ends zs (k + 1) (min L (zat zs k)) (max H (zat zs k)) := fun j hj => by
  by_cases e : j = k
  · subst e; omega
  · have := h j (by omega); omega
theorem div_facts {n m : Int} (h : 0 ≤ n) (h' : 1 ≤ m) : n / m * m + n % m = n ∧ 0 ≤ n % m ∧ n % m < m ∧ 0 ≤ n / m * m ∧ n / m * m ≤ n := by
  have e := Int.ediv_mul_add_emod n m
  have a := Int.emod_nonneg n (b := m) (by omega)
  have b := Int.emod_lt_of_pos n (b := m) (by omega)
  have c := Int.mul_nonneg (Int.ediv_nonneg h (show 0 ≤ m by omega)) (show 0 ≤ m by omega)
  exact ⟨e, a, b, c, by omega⟩
set_option maxHeartbeats 1000000 in
theorem walk_out (A : Option Addr) (c : Nat) (zs : List Int) (w : World) (hl : zs.length = 0 ∨ 200 < zs.length) (hc : zs.length ≤ 9223372036854775807) :
    Calls Tryd.prog 7 #[.slice A zs.length c] w fun e w' => e = .returned (.bool true) ∧ Below w.heap.size w w' := by
  rcases hl with hl | hl
  · rw [hl]
    go_enter Tryd.func7, Tryd.ntmps7
    go_wp2_with fail
    go_ret
    exact ⟨rfl, Below.refl _ _⟩
  · have hn1 : ((zs.length : Int) == 0) = false := by rw [beq_eq_false_iff_ne]; omega
    go_enter Tryd.func7, Tryd.ntmps7
    go_wp2_with fail
    go_ret
    exact ⟨rfl, Below.refl _ _⟩
set_option maxRecDepth 100000 in
set_option maxHeartbeats 1000000 in
theorem walk_in (A : Option Addr) (c : Nat) (zs : List Int) (w : World) (hr : RdI w .i64 A zs) (hl : zs.length ≤ 200) (hn : 0 < zs.length) (hx : ∀ j, j < zs.length → -9223372036854775808 ≤ zat zs j ∧ zat zs j ≤ 9223372036854775807) :
    Calls Tryd.prog 7 #[.slice A zs.length c] w fun e w' => e = .returned (.bool true) ∧ Below w.heap.size w w' := by
  have XX := Lib.hid hx
  have RX := Lib.hid hr
  clear hx hr
  obtain ⟨a, rfl, hc⟩ := RX.out.at_ (i := 0) hn
  have hc' : w.cell? a = some (.int .i64 (zat zs 0)) := by simpa [Addr.add] using hc
  clear hc
  have hn1 : ((zs.length : Int) == 0) = false := by rw [beq_eq_false_iff_ne]; omega
  go_enter Tryd.func7, Tryd.ntmps7
  go_wp2_with fail
  go_quiet (fail)
  go_wp2_with fail
  clear hc'
  go_loopw [3, 4, 5, 6] (fun s l h i wr => ∃ k : Nat, k ≤ zs.length ∧ i = .int .i64 k ∧ ∃ L H : Int, -9223372036854775808 ≤ L ∧ L ≤ 9223372036854775807 ∧ -9223372036854775808 ≤ H ∧ H ≤ 9223372036854775807 ∧ 0 ≤ psum zs k ∧ psum zs k ≤ 9223372036854775807 ∧ s = .int .i64 (psum zs k) ∧ l = .int .i64 L ∧ h = .int .i64 H ∧ Hid (Ends zs k L H) ∧ ∃ q, wr = w.drewN q) (fun _ _ _ i _ => zs.length - (intOf i).toNat)
  case atStart =>
    have x0 := XX.out 0 hn
    exact ⟨0, by omega, rfl, zat zs 0, zat zs 0, x0.1, x0.2, x0.1, x0.2, by rw [psum_zero]; omega, by rw [psum_zero]; omega, by rw [psum_zero], rfl, rfl, fun j hj => absurd hj (by omega), _, rfl⟩
  case round =>
    obtain ⟨k, hk, rfl, L, H, l1, l2, m1, m2, s1, s2, rfl, rfl, rfl, hE, q, rfl⟩ := hrel
    by_cases h : k < zs.length
    · obtain ⟨a', ea, hc⟩ := RX.out.at_ (i := k) h
      cases ea
      obtain ⟨x1, x2⟩ := XX.out k h
      by_cases hneg : zat zs k < 0
      · go_wp2_with fail
        refine (radd_any _ _ _ (by omega) (by omega) x1 x2).mono ?_
        rintro e w' ⟨rfl, rfl⟩
        go_wp2_with fail
        go_ret
        exact ⟨rfl, by repeat (first | exact Below.refl _ _ | apply below_drewN | apply Below.drew)⟩
      · have hnn : 0 ≤ zat zs k := by omega
        by_cases hbig : 9223372036854775807 < psum zs k + zat zs k
        · go_wp2_with fail
          refine (radd_no _ _ _ (by omega) (by omega) x1 x2 hbig).mono ?_
          rintro e w' ⟨rfl, rfl⟩
          go_wp2_with fail
          go_ret
          exact ⟨rfl, by repeat (first | exact Below.refl _ _ | apply below_drewN | apply Below.drew)⟩
        · have t1 : psum zs k + zat zs k ≤ 9223372036854775807 := by omega
          have E := Lib.hid (psum_succ zs k h)
          clear hbig hneg
          go_wp2_with fail
          refine (radd_ok _ _ (psum zs (k + 1)) _ (by omega) (by omega) x1 x2 E.out.symm (by have e := E.out; omega)).mono ?_
          rintro e w' ⟨rfl, rfl⟩
          go_wp2_with fail
          go_quiet (fail)
          go_wp2_with fail
          go_roundw
          case rel =>
            have e := E.out
            refine ⟨k + 1, by omega, by go_num, _, _, ?_, ?_, ?_, ?_, ?_, ?_, rfl, rfl, rfl, ends_next hE.out hnn, _, rfl⟩
            all_goals omega
          case measure => simp [intOf]; omega
    · obtain rfl : k = zs.length := by omega
      clear h
      have E := hE.out
      have hp : ∀ j, j < zs.length → 0 ≤ zat zs j := fun j hj => (E j hj).2.2
      have hL := psum_lo zs L zs.length (Nat.le_refl _) (fun j hj => (E j hj).1)
      have hH := psum_hi zs H zs.length (Nat.le_refl _) (fun j hj => (E j hj).2.1)
      have hM : ∀ W : World, Below w.heap.size w W → _ := fun W hW => mean_ok (some a) c zs W (RX.out.kept hW) hl hn hp s2
      have M := Lib.hid hM
      clear hE E hp hM
      generalize psum zs zs.length = T at *
      clear RX XX
      obtain ⟨e1, e2, e3, e4, e5⟩ := div_facts (n := T) (m := (zs.length : Int)) s1 (by omega)
      have dL : L ≤ T / zs.length := (Int.le_ediv_iff_mul_le (by omega)).2 (by rw [Int.mul_comm]; exact hL)
      have dH : T / zs.length ≤ H := by
        have := Int.ediv_le_ediv (c := (zs.length : Int)) (by omega) hH
        rwa [Int.mul_ediv_cancel_left _ (by omega)] at this
      have E1 := Lib.hid e1
      have dl := Lib.hid (decide_eq_true dL)
      have dh := Lib.hid (decide_eq_true dH)
      clear hL hH e1
      go_wp2_with fail
      refine (M.out _ (below_drewN (Below.refl _ _) _)).mono ?_
      rintro x X ⟨rfl, hX⟩
      have hbX : Below w.heap.size w X := (below_drewN (Below.refl _ _) q).trans hX
      clear hX
      have e1 := E1.out
      have hw1 : IntKind.i64.wrap (T / zs.length * zs.length) = T / zs.length * zs.length := IntWalk.i64_in _ (by omega)
      have hw2 : IntKind.i64.wrap (T / zs.length * zs.length + T % zs.length) = T := by rw [e1]; exact IntWalk.i64_in _ (by omega)
      go_wp2_with fail
      refine (alive_any _).mono ?_
      rintro x X3 ⟨rfl, h3⟩
      go_wp2_with fail
      go_ret
      exact ⟨rfl, (hbX.alloc hbX.size _).trans (h3.mono (by have := hbX.size; simp; omega))⟩
theorem walk {A : Option Addr} {c : Nat} {zs : List Int} (hc : zs.length ≤ c) (hm : c ≤ maxLen) {w : World} (hr : RdI w .i64 A zs) {LL : Prop} (hL : LL) :
    Calls Tryd.prog 7 #[.slice A zs.length c] w fun e w' => e = .returned (.bool true) ∧ Below w.heap.size w w' := by
  by_cases h : 0 < zs.length ∧ zs.length ≤ 200
  · exact walk_in A c zs w hr h.2 h.1 (fun j hj => by
      obtain ⟨_, _, _, _, h⟩ := hr j hj
      exact bounds_i64 h)
  · unfold maxLen at hm
    exact walk_out A c zs w (by omega) (by omega)

end Go.Proofs.YtbbcohgkiejhjabDoor.fracBack
