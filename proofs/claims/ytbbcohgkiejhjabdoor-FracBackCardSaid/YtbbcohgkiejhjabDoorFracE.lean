/- Contracts of frac.Mean and of the document's. -/
import Derived.Test.YtbbcohgkiejhjabDoorRows
import Derived.Test.YtbbcohgkiejhjabDoorNumsMath
import Derived.Test.YtbbcohgkiejhjabDoorNumsA
import Derived.Test.YtbbcohgkiejhjabDoorRowKit
import Derived.Test.YtbbcohgkiejhjabDoorFracA
import Derived.WalkKit
import Derived.Lib.Hide
import Derived.WalkSpells
import Derived.WalkLawsBesides
import Derived.Laws.CopyOwn
import Derived.Deep.WholeRow
import Derived.Deep.QuietTactic
import Derived.BigQuiet
namespace Go.Proofs.YtbbcohgkiejhjabDoor
open Go.RowKit
set_option linter.unusedSimpArgs false
set_option linter.unusedVariables false
/-- the sum of the first k -/
def psum (zs : List Int) (k : Nat) : Int := (zs.take k).sum
theorem psum_zero (zs : List Int) : psum zs 0 = 0 := by simp [psum]
theorem psum_succ (zs : List Int) (k : Nat) (h : k < zs.length) : psum zs (k + 1) = psum zs k + zat zs k := by
  unfold psum
  rw [List.take_succ_eq_append_getElem h, List.sum_append]; unfold zat; rw [List.getD_eq_getElem?_getD, List.getElem?_eq_getElem h]
  simp
theorem psum_le (zs : List Int) {j k : Nat} (hp : ∀ i, i < zs.length → 0 ≤ zat zs i) (h : j ≤ k) (hk : k ≤ zs.length) : psum zs j ≤ psum zs k := by
  induction k with
  | zero => obtain rfl : j = 0 := by omega
            exact Int.le_refl _
  | succ k ih =>
    by_cases e : j = k + 1
    · subst e; exact Int.le_refl _
    · have := ih (by omega) (by omega)
      rw [psum_succ zs k (by omega)]
      have := hp k (by omega)
      omega
theorem psum_nn (zs : List Int) {k : Nat} (hp : ∀ i, i < zs.length → 0 ≤ zat zs i) (hk : k ≤ zs.length) : 0 ≤ psum zs k := by
  have := psum_le zs hp (Nat.zero_le k) hk
  rwa [psum_zero] at this
/-- the first place of a row with something, of which there is one -/
theorem first_of {p : Nat → Prop} [DecidablePred p] {n : Nat} (h : ∃ i, i < n ∧ p i) : ∃ m, m < n ∧ p m ∧ ∀ j, j < m → ¬ p j := by
  induction n with
  | zero => obtain ⟨i, hi, _⟩ := h; omega
  | succ n ih =>
    by_cases g : ∃ i, i < n ∧ p i
    · obtain ⟨m, a, b, c⟩ := ih g; exact ⟨m, by omega, b, c⟩
    · obtain ⟨i, hi, hp⟩ := h
      have e : i = n := by
        by_cases x : i < n
        · exact absurd ⟨i, x, hp⟩ g
        · omega
      subst e
      exact ⟨i, by omega, hp, fun j hj hpj => g ⟨j, hj, hpj⟩⟩
theorem RdI.at_ {w : World} {k : IntKind} {A : Option Addr} {zs : List Int} (h : RdI w k A zs) {i : Nat} (hi : i < zs.length) : ∃ a, A = some a ∧ w.cell? (a.add i) = some (.int k (zat zs i)) := by
  obtain ⟨a, e, _, hc, _⟩ := h i hi; exact ⟨a, e, hc⟩
theorem add_ok (a b n : Int) (w : World) (b0 : -9223372036854775808 ≤ a) (c0 : a ≤ 9223372036854775807) (b1 : -9223372036854775808 ≤ b) (c1 : b ≤ 9223372036854775807)
    (e : a + b = n) (hq : -9223372036854775808 ≤ n ∧ n ≤ 9223372036854775807) : Calls Tryd.prog 32 #[.int .i64 a, .int .i64 b] w fun e w' => e = .returned (.tuple #[.int .i64 n, .int .i64 0]) ∧ w = w' := by
  have := add_any a b w b0 c0 b1 c1
  rwa [e, (fit_yes hq).1, (fit_yes hq).2] at this
theorem add_no (a b : Int) (w : World) (b0 : -9223372036854775808 ≤ a) (c0 : a ≤ 9223372036854775807) (b1 : -9223372036854775808 ≤ b) (c1 : b ≤ 9223372036854775807)
    (hq : 9223372036854775807 < a + b) : Calls Tryd.prog 32 #[.int .i64 a, .int .i64 b] w fun e w' => e = .returned (.tuple #[.int .i64 0, .int .i64 10]) ∧ w = w' := by
  have := add_any a b w b0 c0 b1 c1
  rwa [(fit_no (.inr hq)).1, (fit_no (.inr hq)).2] at this
theorem radd_ok (a b n : Int) (w : World) (b0 : -9223372036854775808 ≤ a) (c0 : a ≤ 9223372036854775807) (b1 : -9223372036854775808 ≤ b) (c1 : b ≤ 9223372036854775807)
    (e : a + b = n) (hq : -9223372036854775808 ≤ n ∧ n ≤ 9223372036854775807) : Calls Tryd.prog 22 #[.int .i64 a, .int .i64 b] w fun e w' => e = .returned (.tuple #[.int .i64 n, .bool true]) ∧ w = w' := by
  have := radd_any a b w b0 c0 b1 c1
  rwa [e, (fit_yes hq).1, fitB_yes hq] at this
theorem radd_no (a b : Int) (w : World) (b0 : -9223372036854775808 ≤ a) (c0 : a ≤ 9223372036854775807) (b1 : -9223372036854775808 ≤ b) (c1 : b ≤ 9223372036854775807)
    (hq : 9223372036854775807 < a + b) : Calls Tryd.prog 22 #[.int .i64 a, .int .i64 b] w fun e w' => e = .returned (.tuple #[.int .i64 0, .bool false]) ∧ w = w' := by
  have := radd_any a b w b0 c0 b1 c1
  rwa [(fit_no (.inr hq)).1, fitB_no (.inr hq)] at this
/-- the world behind the result's block -/
theorem res_world (w : World) : ∃ X : World, w.alloc (Obj.cells #[.int .i64 0, .int .i64 0, .int .i64 0] 23) = X ∧ X.heap[w.heap.size]? = some (.cells #[.int .i64 0, .int .i64 0, .int .i64 0] 23) ∧ Below w.heap.size w X ∧ X.heap.size = w.heap.size + 1 :=
  ⟨_, rfl, heap_alloc_last w _, (Below.refl _ _).alloc (Nat.le_refl _) _, by simp⟩
set_option maxHeartbeats 400000 in
theorem mean_neg (A : Option Addr) (c m : Nat) (zs : List Int) (w : World) (hr : RdI w .i64 A zs) (hl : zs.length ≤ 200) (hm : m < zs.length) (hneg : zat zs m < 0) (hpos : ∀ j, j < m → 0 ≤ zat zs j) :
    Calls Tryd.prog 20 #[.slice A zs.length c] w fun e w' => e = .returned (.tuple #[.agg #[.int .i64 0, .int .i64 0, .int .i64 0], .int .i64 22]) ∧ Below w.heap.size w w' := by
  have P := Lib.hid hpos
  have R := Lib.hid hr
  clear hpos hr
  go_enter Tryd.func20, Tryd.ntmps20
  go_wp2_with fail
  obtain ⟨X, hX, hblk, hbel, hsz⟩ := res_world w
  rw [hX]
  have RX := Lib.hid (R.out.kept hbel)
  have k0 := blk_cell hblk 0
  have k1 := blk_cell hblk 1
  have k2 := blk_cell hblk 2
  have f0 := blk_frozen hblk 0
  have f1 := blk_frozen hblk 1
  have f2 := blk_frozen hblk 2
  have hz : w.heap.size < X.heap.size := by omega
  clear hX hblk hsz R
  go_loop [12] (fun i => ∃ k : Nat, k ≤ m ∧ i = .int .i64 k) (fun i => m - (intOf i).toNat)
  case atStart => exact ⟨0, by omega, rfl⟩
  case round =>
    obtain ⟨k, hk, rfl⟩ := hrel
    obtain ⟨a, rfl, hc⟩ := RX.out.at_ (i := k) (by omega)
    by_cases h : k < m
    · have hp := P.out k h
      go_wp2_with fail
      go_round
      case rel => exact ⟨k + 1, by omega, by go_num⟩
      case measure => simp [intOf]; omega
    · obtain rfl : k = m := by omega
      go_wp2_with fail
      exact bodyPost_ret (v := .tuple #[.agg #[.int .i64 0, .int .i64 0, .int .i64 0], .int .i64 22]) (by simp [results, Tryd.results20, go_sem, *]) rfl ⟨rfl, by repeat (first | exact hbel | apply Below.drew | apply Below.setCell | exact Nat.le_refl _)⟩
set_option maxHeartbeats 400000 in
theorem mean_ok (A : Option Addr) (c : Nat) (zs : List Int) (w : World) (hr : RdI w .i64 A zs) (hl : zs.length ≤ 200) (hn : 0 < zs.length) (hpos : ∀ j, j < zs.length → 0 ≤ zat zs j) (hs : psum zs zs.length ≤ 9223372036854775807) :
    Calls Tryd.prog 20 #[.slice A zs.length c] w fun e w' => e = .returned (.tuple #[.agg #[.int .i64 (psum zs zs.length / zs.length), .int .i64 (psum zs zs.length % zs.length), .int .i64 zs.length], .int .i64 0]) ∧ Below w.heap.size w w' := by
  have P := Lib.hid hpos
  have R := Lib.hid hr
  clear hpos hr
  go_enter Tryd.func20, Tryd.ntmps20
  go_wp2_with fail
  obtain ⟨X, hX, hblk, hbel, hsz⟩ := res_world w
  rw [hX]
  have RX := Lib.hid (R.out.kept hbel)
  have k0 := blk_cell hblk 0
  have k1 := blk_cell hblk 1
  have k2 := blk_cell hblk 2
  have f0 := blk_frozen hblk 0
  have f1 := blk_frozen hblk 1
  have f2 := blk_frozen hblk 2
  have hz : w.heap.size < X.heap.size := by omega
  clear hX hblk hsz R
  go_loop [12] (fun i => ∃ k : Nat, k ≤ zs.length ∧ i = .int .i64 k) (fun i => zs.length - (intOf i).toNat)
  case atStart => exact ⟨0, by omega, rfl⟩
  case round =>
    obtain ⟨k, hk, rfl⟩ := hrel
    by_cases h : k < zs.length
    · obtain ⟨a, rfl, hc⟩ := RX.out.at_ (i := k) (by omega)
      have hp := P.out k h
      go_wp2_with fail
      go_round
      case rel => exact ⟨k + 1, by omega, by go_num⟩
      case measure => simp [intOf]; omega
    · obtain rfl : k = zs.length := by omega
      go_wp2_with fail
      go_loop [6, 22] (fun s i => ∃ k : Nat, k ≤ zs.length ∧ i = .int .i64 k ∧ s = .int .i64 (psum zs k)) (fun _ i => zs.length - (intOf i).toNat)
      case atStart => exact ⟨0, by omega, rfl, by rw [psum_zero]⟩
      case round =>
        obtain ⟨k, hk, rfl, rfl⟩ := hrel
        have s0 := psum_nn zs P.out hk
        have s1 := Int.le_trans (psum_le zs P.out hk (Nat.le_refl _)) hs
        by_cases h : k < zs.length
        · obtain ⟨a, rfl, hc⟩ := RX.out.at_ (i := k) (by omega)
          have hp := P.out k h
          have t1 := Int.le_trans (psum_le zs P.out (show k + 1 ≤ zs.length from h) (Nat.le_refl _)) hs
          have e := psum_succ zs k h
          have E := Lib.hid e
          have hp2 : zat zs k ≤ 9223372036854775807 := by omega
          have t1' : psum zs k + zat zs k ≤ 9223372036854775807 := by omega
          clear e t1
          go_wp2_with fail
          refine (add_ok _ _ (psum zs (k + 1)) _ (by omega) (by omega) (by omega) hp2 E.out.symm (by have e := E.out; omega)).mono ?_
          rintro e w' ⟨rfl, rfl⟩
          go_wp2_with fail
          go_round
          case rel => exact ⟨k + 1, by omega, by go_num, rfl⟩
          case measure => simp [intOf]; omega
        · obtain rfl : k = zs.length := by omega
          go_wp2_with fail
          refine (of_ok _ _ _ s0 (by omega) s1).mono ?_
          rintro e Y ⟨rfl, hY⟩
          obtain ⟨K0, K1, K2, HZ⟩ := keep3 (g := w.heap.size) hY hz ⟨k0, k1, k2⟩
          have F0 := (hY.frozen (p := ⟨w.heap.size, 0, none⟩) hz).trans f0
          have F1 := (hY.frozen (p := ⟨w.heap.size, 1, none⟩) hz).trans f1
          have F2 := (hY.frozen (p := ⟨w.heap.size, 2, none⟩) hz).trans f2
          clear k0 k1 k2 f0 f1 f2
          have hbY := hbel.trans (hY.mono (Nat.le_of_lt hz))
          go_wp2_with fail
          exact bodyPost_ret (v := .tuple #[.agg #[.int .i64 (psum zs zs.length / zs.length), .int .i64 (psum zs zs.length % zs.length), .int .i64 zs.length], .int .i64 0]) (by simp [results, Tryd.results20, go_sem, *]) rfl ⟨rfl, by repeat (first | exact hbY | apply Below.drew | apply Below.setCell | exact Nat.le_refl _)⟩
set_option maxHeartbeats 1000000 in
theorem mean_range (A : Option Addr) (c : Nat) (zs : List Int) (w : World) (hr : RdI w .i64 A zs) (hl : zs.length ≤ 200) (m : Nat) (hm : m < zs.length) (hpos : ∀ j, j < zs.length → 0 ≤ zat zs j) (h1 : psum zs m ≤ 9223372036854775807) (h2 : 9223372036854775807 < psum zs m + zat zs m) (hx : ∀ j, j < zs.length → zat zs j ≤ 9223372036854775807) :
    Calls Tryd.prog 20 #[.slice A zs.length c] w fun e w' => e = .returned (.tuple #[.agg #[.int .i64 0, .int .i64 0, .int .i64 0], .int .i64 10]) ∧ Below w.heap.size w w' := by
  have XX := Lib.hid hx
  clear hx
  have P := Lib.hid hpos
  have R := Lib.hid hr
  clear hpos hr
  go_enter Tryd.func20, Tryd.ntmps20
  go_wp2_with fail
  obtain ⟨X, hX, hblk, hbel, hsz⟩ := res_world w
  rw [hX]
  have RX := Lib.hid (R.out.kept hbel)
  have k0 := blk_cell hblk 0
  have k1 := blk_cell hblk 1
  have k2 := blk_cell hblk 2
  have f0 := blk_frozen hblk 0
  have f1 := blk_frozen hblk 1
  have f2 := blk_frozen hblk 2
  have hz : w.heap.size < X.heap.size := by omega
  clear hX hblk hsz R
  go_loop [12] (fun i => ∃ k : Nat, k ≤ zs.length ∧ i = .int .i64 k) (fun i => zs.length - (intOf i).toNat)
  case atStart => exact ⟨0, by omega, rfl⟩
  case round =>
    obtain ⟨k, hk, rfl⟩ := hrel
    by_cases h : k < zs.length
    · obtain ⟨a, rfl, hc⟩ := RX.out.at_ (i := k) (by omega)
      have hp := P.out k h
      go_wp2_with fail
      go_round
      case rel => exact ⟨k + 1, by omega, by go_num⟩
      case measure => simp [intOf]; omega
    · obtain rfl : k = zs.length := by omega
      go_wp2_with fail
      go_loop [6, 22] (fun s i => ∃ k : Nat, k ≤ m ∧ i = .int .i64 k ∧ s = .int .i64 (psum zs k)) (fun _ i => m - (intOf i).toNat)
      case atStart => exact ⟨0, by omega, rfl, by rw [psum_zero]⟩
      case round =>
        obtain ⟨k, hk, rfl, rfl⟩ := hrel
        have s0 := psum_nn zs P.out (show k ≤ zs.length by omega)
        have s1 := Int.le_trans (psum_le zs P.out hk (by omega)) h1
        obtain ⟨a, rfl, hc⟩ := RX.out.at_ (i := k) (by omega)
        have hp := P.out k (by omega)
        have hp2 := XX.out k (by omega)
        by_cases h : k < m
        · have t1 := Int.le_trans (psum_le zs P.out (show k + 1 ≤ m from h) (by omega)) h1
          have e := psum_succ zs k (by omega)
          have E := Lib.hid e
          have t1' : psum zs k + zat zs k ≤ 9223372036854775807 := by omega
          clear e t1
          go_wp2_with fail
          refine (add_ok _ _ (psum zs (k + 1)) _ (by omega) (by omega) (by omega) hp2 E.out.symm (by have e := E.out; omega)).mono ?_
          rintro e w' ⟨rfl, rfl⟩
          go_wp2_with fail
          go_round
          case rel => exact ⟨k + 1, by omega, by go_num, rfl⟩
          case measure => simp [intOf]; omega
        · obtain rfl : k = m := by omega
          go_wp2_with fail
          refine (add_no _ _ _ (by omega) (by omega) (by omega) hp2 h2).mono ?_
          rintro e w' ⟨rfl, rfl⟩
          go_wp2_with fail
          exact bodyPost_ret (v := .tuple #[.agg #[.int .i64 0, .int .i64 0, .int .i64 0], .int .i64 10]) (by simp [results, Tryd.results20, go_sem, *]) rfl ⟨rfl, by repeat (first | exact hbel | apply Below.drew | apply Below.setCell | exact Nat.le_refl _)⟩
set_option maxHeartbeats 1000000 in
theorem mean_none (A : Option Addr) (c : Nat) (w : World) :
    Calls Tryd.prog 20 #[.slice A 0 c] w fun e w' => e = .returned (.tuple #[.agg #[.int .i64 0, .int .i64 0, .int .i64 0], .int .i64 11]) ∧ Below w.heap.size w w' := by
  go_enter Tryd.func20, Tryd.ntmps20
  go_wp2_with fail
  obtain ⟨X, hX, hblk, hbel, hsz⟩ := res_world w
  rw [hX]
  have k0 := blk_cell hblk 0
  have k1 := blk_cell hblk 1
  have k2 := blk_cell hblk 2
  have f0 := blk_frozen hblk 0
  have f1 := blk_frozen hblk 1
  have f2 := blk_frozen hblk 2
  have hz : w.heap.size < X.heap.size := by omega
  clear hX hblk hsz
  go_loop [12] (fun i => i = .int .i64 0) (fun i => 0)
  case atStart => exact rfl
  case round =>
    obtain rfl := hrel
    go_wp2_with fail
    go_loop [6, 22] (fun s i => i = .int .i64 0 ∧ s = .int .i64 0) (fun _ i => 0)
    case atStart => exact ⟨rfl, rfl⟩
    case round =>
      obtain ⟨rfl, rfl⟩ := hrel
      go_wp2_with fail
      refine (of_zero _ _ (by omega)).mono ?_
      rintro e Y ⟨rfl, hY⟩
      obtain ⟨K0, K1, K2, HZ⟩ := keep3 (g := w.heap.size) hY hz ⟨k0, k1, k2⟩
      have F0 := (hY.frozen (p := ⟨w.heap.size, 0, none⟩) hz).trans f0
      have F1 := (hY.frozen (p := ⟨w.heap.size, 1, none⟩) hz).trans f1
      have F2 := (hY.frozen (p := ⟨w.heap.size, 2, none⟩) hz).trans f2
      clear k0 k1 k2 f0 f1 f2
      have hbY := hbel.trans (hY.mono (Nat.le_of_lt hz))
      go_wp2_with fail
      exact bodyPost_ret (v := .tuple #[.agg #[.int .i64 0, .int .i64 0, .int .i64 0], .int .i64 11]) (by simp [results, Tryd.results20, go_sem, *]) rfl ⟨rfl, by repeat (first | exact hbY | apply Below.drew | apply Below.setCell | exact Nat.le_refl _)⟩
set_option maxHeartbeats 1000000 in
theorem rmean_neg (A : Option Addr) (c : Nat) (zs : List Int) (w : World) (hr : RdI w .i64 A zs) (hl : zs.length ≤ 200) (m : Nat) (hm : m < zs.length) (hneg : zat zs m < 0) (hpos : ∀ j, j < m → 0 ≤ zat zs j) (hx : ∀ j, j < zs.length → zat zs j ≤ 9223372036854775807) :
    Calls Tryd.prog 21 #[.slice A zs.length c] w fun e w' => e = .returned (.tuple #[.agg #[.int .i64 0, .int .i64 0, .int .i64 0], .int .i64 22]) ∧ Below w.heap.size w w' := by
  have XX := Lib.hid hx
  clear hx
  have P := Lib.hid hpos
  have R := Lib.hid hr
  clear hpos hr
  go_enter Tryd.func21, Tryd.ntmps21
  go_wp2_with fail
  obtain ⟨X, hX, hblk, hbel, hsz⟩ := res_world w
  rw [hX]
  have RX := Lib.hid (R.out.kept hbel)
  have k0 := blk_cell hblk 0
  have k1 := blk_cell hblk 1
  have k2 := blk_cell hblk 2
  have f0 := blk_frozen hblk 0
  have f1 := blk_frozen hblk 1
  have f2 := blk_frozen hblk 2
  have hz : w.heap.size < X.heap.size := by omega
  clear hX hblk hsz R
  go_loop [4, 5, 6] (fun s b i => ∃ k : Nat, k ≤ m ∧ i = .int .i64 k ∧ ∃ (S : Int) (B : Bool), -9223372036854775808 ≤ S ∧ S ≤ 9223372036854775807 ∧ s = .int .i64 S ∧ b = .bool B) (fun _ _ i => m - (intOf i).toNat)
  case atStart => exact ⟨0, by omega, rfl, 0, true, by omega, by omega, rfl, rfl⟩
  case round =>
    obtain ⟨k, hk, rfl, S, B, s0, s1, rfl, rfl⟩ := hrel
    obtain ⟨a, rfl, hc⟩ := RX.out.at_ (i := k) (by omega)
    have hp2 := XX.out k (by omega)
    by_cases h : k < m
    · have hp := P.out k h
      cases B
      · go_wp2_with fail
        go_round
        case rel => exact ⟨k + 1, by omega, by go_num, S, false, s0, s1, rfl, rfl⟩
        case measure => simp [intOf]; omega
      · go_wp2_with fail
        refine (radd_any _ _ _ (by omega) (by omega) (by omega) hp2).mono ?_
        rintro e w' ⟨rfl, rfl⟩
        have fw := fitN_wf (S + zat zs k)
        go_wp2_with fail
        go_round
        case rel => exact ⟨k + 1, by omega, by go_num, _, _, fw.1, fw.2, rfl, rfl⟩
        case measure => simp [intOf]; omega
    · obtain rfl : k = m := by omega
      go_wp2_with fail
      exact bodyPost_ret (v := .tuple #[.agg #[.int .i64 0, .int .i64 0, .int .i64 0], .int .i64 22]) (by simp [results, Tryd.results21, go_sem, *]) rfl ⟨rfl, by repeat (first | exact hbel | apply Below.drew | apply Below.setCell | exact Nat.le_refl _)⟩
set_option maxHeartbeats 1000000 in
theorem rmean_ok (A : Option Addr) (c : Nat) (zs : List Int) (w : World) (hr : RdI w .i64 A zs) (hl : zs.length ≤ 200) (hn : 0 < zs.length) (hpos : ∀ j, j < zs.length → 0 ≤ zat zs j) (hs : psum zs zs.length ≤ 9223372036854775807) :
    Calls Tryd.prog 21 #[.slice A zs.length c] w fun e w' => e = .returned (.tuple #[.agg #[.int .i64 (psum zs zs.length / zs.length), .int .i64 (psum zs zs.length % zs.length), .int .i64 zs.length], .int .i64 0]) ∧ Below w.heap.size w w' := by
  have P := Lib.hid hpos
  have R := Lib.hid hr
  clear hpos hr
  go_enter Tryd.func21, Tryd.ntmps21
  go_wp2_with fail
  obtain ⟨X, hX, hblk, hbel, hsz⟩ := res_world w
  rw [hX]
  have RX := Lib.hid (R.out.kept hbel)
  have k0 := blk_cell hblk 0
  have k1 := blk_cell hblk 1
  have k2 := blk_cell hblk 2
  have f0 := blk_frozen hblk 0
  have f1 := blk_frozen hblk 1
  have f2 := blk_frozen hblk 2
  have hz : w.heap.size < X.heap.size := by omega
  clear hX hblk hsz R
  go_loop [4, 5, 6] (fun s b i => ∃ k : Nat, k ≤ zs.length ∧ i = .int .i64 k ∧ s = .int .i64 (psum zs k) ∧ b = .bool true) (fun _ _ i => zs.length - (intOf i).toNat)
  case atStart => exact ⟨0, by omega, rfl, by rw [psum_zero], rfl⟩
  case round =>
    obtain ⟨k, hk, rfl, rfl, rfl⟩ := hrel
    have s0 := psum_nn zs P.out hk
    have s1 := Int.le_trans (psum_le zs P.out hk (Nat.le_refl _)) hs
    by_cases h : k < zs.length
    · obtain ⟨a, rfl, hc⟩ := RX.out.at_ (i := k) (by omega)
      have hp := P.out k h
      have t1 := Int.le_trans (psum_le zs P.out (show k + 1 ≤ zs.length from h) (Nat.le_refl _)) hs
      have e := psum_succ zs k h
      have E := Lib.hid e
      have hp2 : zat zs k ≤ 9223372036854775807 := by omega
      have t1' : psum zs k + zat zs k ≤ 9223372036854775807 := by omega
      clear e t1
      go_wp2_with fail
      refine (radd_ok _ _ (psum zs (k + 1)) _ (by omega) (by omega) (by omega) hp2 E.out.symm (by have e := E.out; omega)).mono ?_
      rintro e w' ⟨rfl, rfl⟩
      go_wp2_with fail
      go_round
      case rel => exact ⟨k + 1, by omega, by go_num, rfl, rfl⟩
      case measure => simp [intOf]; omega
    · obtain rfl : k = zs.length := by omega
      have hzz : (zs.length : Int) ≠ 0 := by omega
      have hz1 : 1 ≤ (zs.length : Int) := by omega
      have hz2 : ((zs.length : Int) == 0) = false := by rw [beq_eq_false_iff_ne]; omega
      go_wp2_with fail
      go_region
      all_goals
        go_wp2_with fail
        exact bodyPost_ret (v := .tuple #[.agg #[.int .i64 (psum zs zs.length / zs.length), .int .i64 (psum zs zs.length % zs.length), .int .i64 zs.length], .int .i64 0]) (by simp [results, Tryd.results21, go_sem, *]) rfl ⟨rfl, by repeat (first | exact hbel | apply Below.drew | apply Below.setCell | exact Nat.le_refl _)⟩
set_option maxHeartbeats 1000000 in
theorem rmean_range (A : Option Addr) (c : Nat) (zs : List Int) (w : World) (hr : RdI w .i64 A zs) (hl : zs.length ≤ 200) (m : Nat) (hm : m < zs.length) (hpos : ∀ j, j < zs.length → 0 ≤ zat zs j) (h1 : psum zs m ≤ 9223372036854775807) (h2 : 9223372036854775807 < psum zs m + zat zs m) (hx : ∀ j, j < zs.length → zat zs j ≤ 9223372036854775807) :
    Calls Tryd.prog 21 #[.slice A zs.length c] w fun e w' => e = .returned (.tuple #[.agg #[.int .i64 0, .int .i64 0, .int .i64 0], .int .i64 10]) ∧ Below w.heap.size w w' := by
  have XX := Lib.hid hx
  clear hx
  have P := Lib.hid hpos
  have R := Lib.hid hr
  clear hpos hr
  go_enter Tryd.func21, Tryd.ntmps21
  go_wp2_with fail
  obtain ⟨X, hX, hblk, hbel, hsz⟩ := res_world w
  rw [hX]
  have RX := Lib.hid (R.out.kept hbel)
  have k0 := blk_cell hblk 0
  have k1 := blk_cell hblk 1
  have k2 := blk_cell hblk 2
  have f0 := blk_frozen hblk 0
  have f1 := blk_frozen hblk 1
  have f2 := blk_frozen hblk 2
  have hz : w.heap.size < X.heap.size := by omega
  clear hX hblk hsz R
  go_loop [4, 5, 6] (fun s b i => ∃ k : Nat, k ≤ zs.length ∧ i = .int .i64 k ∧ ∃ (S : Int) (B : Bool), -9223372036854775808 ≤ S ∧ S ≤ 9223372036854775807 ∧ s = .int .i64 S ∧ b = .bool B ∧ Hid ((k ≤ m ∧ S = psum zs k ∧ B = true) ∨ (m < k ∧ B = false))) (fun _ _ i => zs.length - (intOf i).toNat)
  case atStart => exact ⟨0, by omega, rfl, 0, true, by omega, by omega, rfl, rfl, .inl ⟨by omega, by rw [psum_zero], rfl⟩⟩
  case round =>
    obtain ⟨k, hk, rfl, S, B, s0, s1, rfl, rfl, H⟩ := hrel
    by_cases h : k < zs.length
    · obtain ⟨a, rfl, hc⟩ := RX.out.at_ (i := k) (by omega)
      have hp2 := XX.out k (by omega)
      have hp := P.out k h
      cases B
      · have hmk : m < k := by rcases H.out with ⟨_, _, e⟩ | ⟨e, _⟩; cases e; exact e
        clear H
        go_wp2_with fail
        go_round
        case rel => exact ⟨k + 1, by omega, by go_num, S, false, s0, s1, rfl, rfl, .inr ⟨by omega, rfl⟩⟩
        case measure => simp [intOf]; omega
      · have H2 : Hid (k ≤ m ∧ S = psum zs k) := by rcases H.out with ⟨e, e2, _⟩ | ⟨_, e⟩; exact ⟨e, e2⟩; cases e
        clear H
        go_wp2_with fail
        refine (radd_any _ _ _ (by omega) (by omega) (by omega) hp2).mono ?_
        rintro e w' ⟨rfl, rfl⟩
        have fw := fitN_wf (S + zat zs k)
        go_wp2_with fail
        go_round
        case rel =>
          refine ⟨k + 1, by omega, by go_num, _, _, fw.1, fw.2, rfl, rfl, ?_⟩
          obtain ⟨q1, q2⟩ := H2.out
          by_cases hkm : k < m
          · have t1 := Int.le_trans (psum_le zs P.out (show k + 1 ≤ m from hkm) (by omega)) h1
            have e := psum_succ zs k h
            rw [q2, ← e]
            exact .inl ⟨by omega, (fit_yes ⟨by have := psum_nn zs P.out (show k + 1 ≤ zs.length from h); omega, t1⟩).1, fitB_yes ⟨by have := psum_nn zs P.out (show k + 1 ≤ zs.length from h); omega, t1⟩⟩
          · obtain rfl : k = m := by omega
            rw [q2]
            exact .inr ⟨by omega, fitB_no (.inr h2)⟩
        case measure => simp [intOf]; omega
    · obtain rfl : k = zs.length := by omega
      obtain rfl : B = false := by rcases H.out with ⟨e, _, _⟩ | ⟨_, e⟩; omega; exact e
      clear H
      go_wp2_with fail
      exact bodyPost_ret (v := .tuple #[.agg #[.int .i64 0, .int .i64 0, .int .i64 0], .int .i64 10]) (by simp [results, Tryd.results21, go_sem, *]) rfl ⟨rfl, by repeat (first | exact hbel | apply Below.drew | apply Below.setCell | exact Nat.le_refl _)⟩
set_option maxHeartbeats 1000000 in
theorem rmean_none (A : Option Addr) (c : Nat) (w : World) :
    Calls Tryd.prog 21 #[.slice A 0 c] w fun e w' => e = .returned (.tuple #[.agg #[.int .i64 0, .int .i64 0, .int .i64 0], .int .i64 11]) ∧ Below w.heap.size w w' := by
  go_enter Tryd.func21, Tryd.ntmps21
  go_wp2_with fail
  obtain ⟨X, hX, hblk, hbel, hsz⟩ := res_world w
  rw [hX]
  have k0 := blk_cell hblk 0
  have k1 := blk_cell hblk 1
  have k2 := blk_cell hblk 2
  have f0 := blk_frozen hblk 0
  have f1 := blk_frozen hblk 1
  have f2 := blk_frozen hblk 2
  have hz : w.heap.size < X.heap.size := by omega
  clear hX hblk hsz
  go_loop [4, 5, 6] (fun s b i => i = .int .i64 0 ∧ s = .int .i64 0 ∧ b = .bool true) (fun _ _ i => 0)
  case atStart => exact ⟨rfl, rfl, rfl⟩
  case round =>
    obtain ⟨rfl, rfl, rfl⟩ := hrel
    go_wp2_with fail
    exact bodyPost_ret (v := .tuple #[.agg #[.int .i64 0, .int .i64 0, .int .i64 0], .int .i64 11]) (by simp [results, Tryd.results21, go_sem, *]) rfl ⟨rfl, by repeat (first | exact hbel | apply Below.drew | apply Below.setCell | exact Nat.le_refl _)⟩
end Go.Proofs.YtbbcohgkiejhjabDoor
