/- The document's Some of layer 69; plain numbers of both. -/
import Derived.Test.YtmdjncknjbjmbaaRows
import Derived.Test.YtmdjncknjbjmbaaRowKit
import Derived.Test.YtmdjncknjbjmbaaSlicesEq
import Derived.Test.YtmdjncknjbjmbaaSlicesEqM
import Derived.Test.YtmdjncknjbjmbaaRowL
import Derived.Test.YtmdjncknjbjmbaaMakeI
import Derived.Test.YtmdjncknjbjmbaaBlocks
import Derived.Test.YtmdjncknjbjmbaaShufA
import Derived.Test.YtmdjncknjbjmbaaShufD
import Derived.WalkKit
import Derived.IntWalk
import Derived.Lib.Hide
import Derived.WalkSpells
import Derived.WalkLawsBesides
import Derived.Deep.QuietTactic
import Derived.Deep.LoopGhost
import Derived.BigQuiet
namespace Go.Proofs.Ytmdjncknjbjmbaa
open Go.RowKit
set_option linter.unusedSimpArgs false
set_option linter.unusedVariables false
/-- with which place the j-th one changes -/
def atF (ws : Nat → Int) (n j : Nat) : Nat := j + (ws j * ((n : Int) - j) / 4294967296).toNat
theorem atF_eq {ws : Nat → Int} {n j : Nat} (h0 : 0 ≤ ws j) (h1 : ws j ≤ 4294967295) (hj : j < n) : (j : Int) + ws j * ((n : Int) - j) / 4294967296 = (atF ws n j : Nat) ∧ atF ws n j < n ∧ 0 ≤ ws j * ((n : Int) - j) / 4294967296 := by
  have a0 : 0 ≤ ws j * ((n : Int) - j) := Int.mul_nonneg h0 (by omega)
  have a1 : ws j * ((n : Int) - j) ≤ 4294967295 * ((n : Int) - j) := Int.mul_le_mul_of_nonneg_right h1 (by omega)
  have q0 : 0 ≤ ws j * ((n : Int) - j) / 4294967296 := Int.ediv_nonneg a0 (by omega)
  obtain ⟨x, hx⟩ : ∃ x, ws j * ((n : Int) - j) = x := ⟨_, rfl⟩
  unfold atF
  rw [hx] at a0 a1 q0 ⊢
  omega
/-- the numbers behind so many rounds -/
def someF (ws : Nat → Int) (n : Nat) : Nat → Nat → Int
  | 0 => fun i => i
  | j + 1 => swF (someF ws n j) j (atF ws n j)
theorem some_bd {ws : Nat → Int} {n : Nat} : ∀ k, (∀ j, j < k → j < n ∧ 0 ≤ ws j ∧ ws j ≤ 4294967295) → ∀ i, i < n → 0 ≤ someF ws n k i ∧ someF ws n k i < n
  | 0, _, i, hi => by show (0 : Int) ≤ (i : Int) ∧ (i : Int) < n; omega
  | k + 1, h, i, hi => by
    obtain ⟨hk, h0, h1⟩ := h k (by omega)
    have hat := (atF_eq h0 h1 hk).2.1
    have ih := some_bd k (fun j hj => h j (by omega))
    show 0 ≤ swF _ _ _ i ∧ swF _ _ _ i < n
    unfold swF
    split
    · exact ih k hk
    · split
      · exact ih _ hat
      · exact ih i hi
def tau (i k j : Nat) : Nat := if j = k then i else if j = i then k else j
theorem sw_tau (f : Nat → Int) (i k j : Nat) : swF f i k j = f (tau i k j) := by
  unfold swF tau
  split
  · rfl
  · split <;> rfl
theorem tau_lt {i k n j : Nat} (hi : i < n) (hk : k < n) (hj : j < n) : tau i k j < n := by
  unfold tau
  split
  · exact hi
  · split
    · exact hk
    · exact hj
theorem tau_inj {i k a b : Nat} (h : tau i k a = tau i k b) : a = b := by
  unfold tau at h
  split at h <;> split at h <;> (try split at h) <;> (try split at h) <;> omega
theorem some_inj {ws : Nat → Int} {n : Nat} : ∀ k, (∀ j, j < k → j < n ∧ 0 ≤ ws j ∧ ws j ≤ 4294967295) → ∀ a b, a < n → b < n → someF ws n k a = someF ws n k b → a = b
  | 0, _, a, b, _, _, e => by have e' : (a : Int) = b := e; omega
  | k + 1, h, a, b, ha, hb, e => by
    obtain ⟨hk, h0, h1⟩ := h k (by omega)
    have hat := (atF_eq h0 h1 hk).2.1
    have e' : swF (someF ws n k) k (atF ws n k) a = swF (someF ws n k) k (atF ws n k) b := e
    rw [sw_tau, sw_tau] at e'
    exact tau_inj (some_inj k (fun j hj => h j (by omega)) _ _ (tau_lt hk hat ha) (tau_lt hk hat hb) e')
theorem some_wf {ws : Nat → Int} {n : Nat} {k : Nat} (hn : n ≤ 65536) (h : ∀ j, j < k → j < n ∧ 0 ≤ ws j ∧ ws j ≤ 4294967295) {m : Nat} (hm : m ≤ n) : ∀ i, i < (rowL (someF ws n k) m).length → (Lit.int .i64 (zat (rowL (someF ws n k) m) i)).wf = true := by
  intro i hi
  rw [rowL_len] at hi
  rw [rowL_at _ hi]
  have := some_bd k h i (by omega)
  exact WalkArith.wf_i64 (by omega)
theorem some_row {ws : Nat → Int} {n j : Nat} (hj : j < n) (ha : atF ws n j < n) : rowL (swF (zat (rowL (someF ws n j) n)) j (atF ws n j)) n = rowL (someF ws n (j + 1)) n := by
  refine rowL_congr fun i hi => ?_
  show swF _ _ _ i = swF _ _ _ i
  rw [sw_tau, sw_tau, rowL_at _ (tau_lt hj ha hi)]
/-- a row's first so many -/
theorem rdI_pre {w : World} {A : Option Addr} {a : Nat → Int} {n k : Nat} (h : RdI w .i64 A (rowL a n)) (hk : k ≤ n) : RdI w .i64 A (rowL a k) := fun i hi => by
  rw [rowL_len] at hi
  obtain ⟨ad, e, hl, hc, hw⟩ := h i (by rw [rowL_len]; omega)
  rw [rowL_at _ (by omega)] at hc hw
  rw [rowL_at _ hi]
  exact ⟨ad, e, hl, hc, hw⟩
/-- the words are words -/
def WD (ws : Nat → Int) (m : Nat) : Prop := ∀ j, j < m → 0 ≤ ws j ∧ ws j ≤ 4294967295
/-- the words stand in memory -/
def WAt (w : World) (W : Option Addr) (m : Nat) (ws : Nat → Int) : Prop := ∀ j, j < m → ∃ b o, W = some ⟨b, o, none⟩ ∧ b < w.heap.size ∧ w.cell? ⟨b, o + j, none⟩ = some (.int .u32 (ws j))
theorem WAt.kept {w w' : World} {W : Option Addr} {m : Nat} {ws : Nat → Int} (h : WAt w W m ws) (hb : Below w.heap.size w w') : WAt w' W m ws := fun j hj => by
  obtain ⟨b, o, e, hl, hc⟩ := h j hj
  exact ⟨b, o, e, Nat.lt_of_lt_of_le hl hb.size, (hb.cell (p := ⟨b, o + j, none⟩) hl).trans hc⟩
/-- some numbers, and that there are as many words -/
def SomeR (k : Nat) (ys : List Int) (w : World) (e : Ending) (w' : World) : Prop := ∃ A c, e = .returned (.tuple #[.slice A k c, .bool true]) ∧ RdI w' .i64 A ys ∧ Below w.heap.size w w'
set_option maxRecDepth 100000 in
set_option maxHeartbeats 4000000 in
theorem rsome_loop (k n m c : Nat) (W : Option Addr) (ws : Nat → Int) (w : World) (hk1 : 0 < k) (hkn : k ≤ n) (hn : n ≤ 300) (hm : m ≤ 1000) (hw : WD ws m) (hW : WAt w W m ws) (E : Ending → World → Prop)
    (hok : k ≤ m → ∀ e w', SomeR k (rowL (someF ws n k) k) w e w' → E e w')
    (hdry : m < k → ∀ e w', e = .returned (.tuple #[.slice none 0 0, .bool false]) ∧ Below w.heap.size w w' → E e w') :
    Calls Try.prog 38 #[.int .i64 k, .int .i64 n, .slice W m c] w E := by
  have HR := Lib.hid (fun w => rrow_any n w (by omega))
  have HW := Lib.hid hW
  have HWD := Lib.hid hw
  have HOK := Lib.hid hok
  have HDRY := Lib.hid hdry
  have HSW := Lib.hid (fun (b off c i t : Nat) (zs : List Int) (w : World) hr hl hi ht => rswap_any b off c zs i t w hr hl hi ht)
  have HSC := Lib.hid (fun (v d : Int) w h1 h2 h3 h4 => rscale_any v d w h1 h2 h3 h4)
  clear hok hdry hw hW
  go_enter Try.func38, Try.ntmps38
  go_wp2_with fail
  refine (HR.out _).mono ?_
  rintro e w1 ⟨A, ca, rfl, hca, hA, hb1⟩
  have HA := Lib.hid (show RdI w1 .i64 A (rowL (someF ws n 0) n) from hA)
  have HB := Lib.hid hb1
  clear hA hb1
  go_wp2_with fail
  go_loopg [8, 9] k (fun g l i wr => ∃ (j : Nat) (A : Option Addr) (ca : Nat), j ≤ k ∧ j ≤ m ∧ g = k - j ∧ i = .int .i64 j ∧ l = .slice A n ca ∧ n ≤ ca ∧ Hid (RdI wr .i64 A (rowL (someF ws n j) n)) ∧ Below w.heap.size w wr)
  case atStart => exact ⟨0, A, ca, by omega, by omega, by omega, rfl, rfl, hca, HA, HB.out⟩
  case round =>
    clear hca HA HB
    obtain ⟨j, A, ca, hjk, hjm, rfl, rfl, rfl, hca, HA, hb⟩ := hrel
    by_cases hj : j < k
    · by_cases hjm2 : j < m
      · obtain ⟨bw, ow, rfl, hlw, hcw⟩ := HW.out.kept hb j hjm2
        obtain ⟨b, off, rfl, hlt, _⟩ := rdI_row HA.out (by rw [rowL_len]; omega)
        obtain ⟨v0, v1⟩ := HWD.out j hjm2
        obtain ⟨e1, e2, e3⟩ := atF_eq (n := n) v0 v1 (show j < n by omega)
        have b1 : ((j : Int) == (m : Int)) = false := by rw [beq_eq_false_iff_ne]; omega
        have hjmI : (j : Int) < m := by omega
        have SC := Lib.hid (fun w => HSC.out (ws j) ((n : Int) - j) w v0 v1 (by omega) (by omega))
        have SW := HSW.out b off ca j (atF ws n j) (rowL (someF ws n j) n) wr HA.out (by rw [rowL_len]; omega) (by rw [rowL_len]; omega) (by rw [rowL_len]; exact e2)
        rw [rowL_len, some_row (by omega) e2] at SW
        have SWh := Lib.hid SW
        obtain ⟨t, ht⟩ : ∃ t, atF ws n j = t := ⟨_, rfl⟩
        rw [ht] at e1 e2 SWh
        obtain ⟨x, hx⟩ : ∃ x, ws j * ((n : Int) - j) / 4294967296 = x := ⟨_, rfl⟩
        rw [hx] at e1 e3 SC
        obtain ⟨v, hv⟩ : ∃ v, ws j = v := ⟨_, rfl⟩
        rw [hv] at hcw SC v0 v1
        have HBk := Lib.hid hb
        clear SW ht hx hv hb
        go_wp2_with fail
        refine (SC.out _).mono ?_
        rintro e w2 ⟨rfl, rfl⟩
        go_wp2_with fail
        refine SWh.out.mono ?_
        rintro e w3 ⟨A3, c3, rfl, hc3, hA3, hb3⟩
        have HA3 := Lib.hid hA3
        have HB3 := Lib.hid (HBk.out.trans (hb3.mono HBk.out.size))
        clear hA3 hb3
        go_wp2_with fail
        go_roundg (k - (j + 1))
        case measure => omega
        case rel => exact ⟨j + 1, A3, c3, by omega, by omega, rfl, by go_num, rfl, hc3, HA3, HB3.out⟩
      · obtain rfl : j = m := by omega
        have hf := HDRY.out hj
        have b1 : ((j : Int) == (j : Int)) = true := by simp
        have HF := Lib.hid hf
        clear hf
        go_wp2_with fail
        exact HF.out _ _ ⟨rfl, hb⟩
    · obtain rfl : j = k := by omega
      have HF := Lib.hid (HOK.out hjm)
      obtain ⟨b, off, rfl, hlt, _⟩ := rdI_row HA.out (by rw [rowL_len]; omega)
      have HP := Lib.hid (rdI_pre HA.out hkn)
      have hjc : (j : Int) ≤ ca := by omega
      clear hlt
      go_wp2_with fail
      exact HF.out _ _ ⟨_, _, rfl, HP.out, hb⟩
end Go.Proofs.Ytmdjncknjbjmbaa
