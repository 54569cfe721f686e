/- Contract of the document's Order. -/
import Derived.Test.YteebeiflipfbkaaRows
import Derived.Test.YteebeiflipfbkaaRowKit
import Derived.Test.YteebeiflipfbkaaSlicesEq
import Derived.Test.YteebeiflipfbkaaSlicesEqM
import Derived.Test.YteebeiflipfbkaaRowL
import Derived.Test.YteebeiflipfbkaaMakeI
import Derived.Test.YteebeiflipfbkaaBlocks
import Derived.Test.YteebeiflipfbkaaShufA
import Derived.Test.YteebeiflipfbkaaShufD
import Derived.Test.YteebeiflipfbkaaShufE
import Derived.WalkKit
import Derived.IntWalk
import Derived.Lib.Hide
import Derived.WalkSpells
import Derived.WalkLawsBesides
import Derived.Deep.QuietTactic
import Derived.Deep.LoopGhost
import Derived.BigQuiet
namespace Go.Proofs.Yteebeiflipfbkaa
open Go.RowKit
set_option linter.unusedSimpArgs false
set_option linter.unusedVariables false
/-- with which place the place n - 1 - j changes -/
def oatF (ws : Nat → Int) (n j : Nat) : Nat := (ws j * ((n : Int) - j) / 4294967296).toNat
theorem oat_eq {ws : Nat → Int} {n j : Nat} (h0 : 0 ≤ ws j) (h1 : ws j ≤ 4294967295) (hj : j < n) : ws j * ((n : Int) - j) / 4294967296 = (oatF ws n j : Nat) ∧ oatF ws n j ≤ n - 1 - j := by
  have a0 : 0 ≤ ws j * ((n : Int) - j) := Int.mul_nonneg h0 (by omega)
  have a1 : ws j * ((n : Int) - j) ≤ 4294967295 * ((n : Int) - j) := Int.mul_le_mul_of_nonneg_right h1 (by omega)
  have q0 : 0 ≤ ws j * ((n : Int) - j) / 4294967296 := Int.ediv_nonneg a0 (by omega)
  obtain ⟨x, hx⟩ : ∃ x, ws j * ((n : Int) - j) = x := ⟨_, rfl⟩
  unfold oatF
  rw [hx] at a0 a1 q0 ⊢
  omega
theorem oat_eq3 {ws : Nat → Int} {n j : Nat} (h0 : 0 ≤ ws j) (h1 : ws j ≤ 4294967295) (hj : j < n) : ws j * ((n : Int) - j) / 4294967296 = (oatF ws n j : Nat) ∧ oatF ws n j ≤ n - 1 - j ∧ 0 ≤ ws j * ((n : Int) - j) / 4294967296 := by
  obtain ⟨e1, e2⟩ := oat_eq h0 h1 hj
  exact ⟨e1, e2, by rw [e1]; omega⟩
/-- the numbers behind so many rounds -/
def ordF (ws : Nat → Int) (n : Nat) : Nat → Nat → Int
  | 0 => fun i => i
  | j + 1 => swF (ordF ws n j) (n - 1 - j) (oatF ws n j)
theorem ord_bd {ws : Nat → Int} {n : Nat} : ∀ k, (∀ j, j < k → j < n ∧ 0 ≤ ws j ∧ ws j ≤ 4294967295) → ∀ i, i < n → 0 ≤ ordF ws n k i ∧ ordF ws n k i < n
  | 0, _, i, hi => by show (0 : Int) ≤ (i : Int) ∧ (i : Int) < n; omega
  | k + 1, h, i, hi => by
    obtain ⟨hk, h0, h1⟩ := h k (by omega)
    have hat := (oat_eq h0 h1 hk).2
    have ih := ord_bd k (fun j hj => h j (by omega))
    show 0 ≤ swF _ _ _ i ∧ swF _ _ _ i < n
    unfold swF
    split
    · exact ih _ (by omega)
    · split
      · exact ih _ (by omega)
      · exact ih i hi
theorem ord_row {ws : Nat → Int} {n j : Nat} (hj : j < n) (ha : oatF ws n j < n) : rowL (swF (zat (rowL (ordF ws n j) n)) (n - 1 - j) (oatF ws n j)) n = rowL (ordF ws n (j + 1)) n := by
  refine rowL_congr fun i hi => ?_
  show swF _ _ _ i = swF _ _ _ i
  rw [sw_tau, sw_tau, rowL_at _ (tau_lt (by omega) ha hi)]
/-- an order, how many words it takes, and that there are as many -/
def OrderR (n : Nat) (ys : List Int) (u : Nat) (w : World) (e : Ending) (w' : World) : Prop := ∃ A c, e = .returned (.tuple #[.slice A n c, .int .i64 u, .bool true]) ∧ n ≤ c ∧ RdI w' .i64 A ys ∧ Below w.heap.size w w'
set_option maxRecDepth 100000 in
set_option maxHeartbeats 4000000 in
theorem rorder_loop (k n m c : Nat) (W : Option Addr) (ws : Nat → Int) (w : World) (hk1 : n ≤ k + 1) (hk2 : k + 1 ≤ n ∨ k = 0 ∧ n = 0) (hn : n ≤ 300) (hm : m ≤ 1000) (hw : WD ws m) (hW : WAt w W m ws) (E : Ending → World → Prop)
    (hok : k ≤ m → ∀ e w', OrderR n (rowL (ordF ws n k) n) k w e w' → E e w')
    (hdry : m < k → ∀ e w', e = .returned (.tuple #[.slice none 0 0, .int .i64 0, .bool false]) ∧ Below w.heap.size w w' → E e w') :
    Calls Try.prog 39 #[.int .i64 n, .slice W m c] w E := by
  have HR := Lib.hid (fun w => rrow_any n w (by omega))
  have HW := Lib.hid hW
  have HWD := Lib.hid hw
  have HOK := Lib.hid hok
  have HDRY := Lib.hid hdry
  have HSW := Lib.hid (fun (b off c i t : Nat) (zs : List Int) (w : World) hr hl hi ht => rswap_any b off c zs i t w hr hl hi ht)
  have HSC := Lib.hid (fun (v d : Int) w h1 h2 h3 h4 => rscale_any v d w h1 h2 h3 h4)
  clear hok hdry hw hW
  go_enter Try.func39, Try.ntmps39
  go_wp2_with fail
  refine (HR.out _).mono ?_
  rintro e w1 ⟨A, ca, rfl, hca, hA, hb1⟩
  have HA := Lib.hid (show RdI w1 .i64 A (rowL (ordF ws n 0) n) from hA)
  have HB := Lib.hid hb1
  clear hA hb1
  go_wp2_with fail
  go_loopg [7, 8, 9] k (fun g l u iv wr => ∃ (j : Nat) (I : Int) (A : Option Addr) (ca : Nat), j ≤ k ∧ j ≤ m ∧ g = k - j ∧ u = .int .i64 j ∧ iv = .int .i64 I ∧ I ≤ (n : Int) - 1 - j ∧ (n : Int) - 1 - j ≤ I ∧ l = .slice A n ca ∧ n ≤ ca ∧ Hid (RdI wr .i64 A (rowL (ordF ws n j) n)) ∧ Below w.heap.size w wr)
  case atStart => exact ⟨0, _, A, ca, by omega, by omega, by omega, rfl, rfl, by omega, by omega, rfl, hca, HA, HB.out⟩
  case round =>
    clear hca HA HB
    obtain ⟨j, I, A, ca, hjk, hjm, rfl, rfl, rfl, hI1, hI2, rfl, hca, HA, hb⟩ := hrel
    by_cases hjp : 0 < I
    · obtain ⟨i, rfl⟩ := Int.eq_ofNat_of_zero_le (show 0 ≤ I by omega)
      have hj : j < k := by omega
      have hi : n - 1 - j = i := by omega
      have hjp2 : (0 : Int) < i := hjp
      have hi300 : (i : Int) ≤ 300 := by omega
      have hdn : (n : Int) - j = (i : Int) + 1 := by omega
      by_cases hjm2 : j < m
      · obtain ⟨bw, ow, rfl, hlw, hcw⟩ := HW.out.kept hb j hjm2
        obtain ⟨b, off, rfl, hlt, _⟩ := rdI_row HA.out (by rw [rowL_len]; omega)
        obtain ⟨v0, v1⟩ := HWD.out j hjm2
        obtain ⟨e1, e2, e3⟩ := oat_eq3 (n := n) v0 v1 (show j < n by omega)
        have b1 : ((j : Int) == (m : Int)) = false := by rw [beq_eq_false_iff_ne]; omega
        have hjmI : (j : Int) < m := by omega
        have SC := Lib.hid (fun w => HSC.out (ws j) ((i : Int) + 1) w v0 v1 (by omega) (by omega))
        have SW := HSW.out b off ca (n - 1 - j) (oatF ws n j) (rowL (ordF ws n j) n) wr HA.out (by rw [rowL_len]; omega) (by rw [rowL_len]; omega) (by rw [rowL_len]; omega)
        rw [rowL_len, ord_row (by omega) (by omega), hi] at SW
        have SWh := Lib.hid SW
        obtain ⟨t, ht⟩ : ∃ t, oatF ws n j = t := ⟨_, rfl⟩
        rw [ht] at e1 e2 SWh
        rw [hdn] at e1 e3
        obtain ⟨x, hx⟩ : ∃ x, ws j * ((i : Int) + 1) / 4294967296 = x := ⟨_, rfl⟩
        rw [hx] at e1 e3 SC
        rw [e1] at SC
        obtain ⟨v, hv⟩ : ∃ v, ws j = v := ⟨_, rfl⟩
        rw [hv] at hcw SC v0 v1
        have HBk := Lib.hid hb
        clear SW ht hx hv hb e1 e3 hdn hi
        go_wp2_with fail
        refine (SC.out _).mono ?_
        rintro e w2 ⟨rfl, rfl⟩
        go_wp2_with fail
        refine SWh.out.mono ?_
        rintro e w3 ⟨A3, c3, rfl, hc3, hA3, hb3⟩
        have HA3 := Lib.hid hA3
        have HB3 := Lib.hid (HBk.out.trans (hb3.mono HBk.out.size))
        clear hA3 hb3
        go_wp2_with fail
        go_roundg (k - (j + 1))
        case measure => omega
        case rel => exact ⟨j + 1, _, A3, c3, by omega, by omega, rfl, by go_num, rfl, by omega, by omega, rfl, hc3, HA3, HB3.out⟩
      · obtain rfl : j = m := by omega
        have hf := HDRY.out hj
        have b1 : ((j : Int) == (j : Int)) = true := by simp
        have HF := Lib.hid hf
        clear hf
        go_wp2_with fail
        go_ret3
        exact HF.out _ _ ⟨rfl, hb⟩
    · obtain rfl : j = k := by omega
      have HF := Lib.hid (HOK.out hjm)
      have hjp3 : I ≤ 0 := by omega
      go_wp2_with fail
      go_ret3
      exact HF.out _ _ ⟨_, _, rfl, hca, HA.out, hb⟩
end Go.Proofs.Yteebeiflipfbkaa
