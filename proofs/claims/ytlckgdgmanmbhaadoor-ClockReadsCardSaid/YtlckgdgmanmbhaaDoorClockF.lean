/- Clock: the document's Read. -/
import Derived.Test.YtlckgdgmanmbhaaDoorRows
import Derived.Test.YtlckgdgmanmbhaaDoorRowKit
import Derived.Test.YtlckgdgmanmbhaaDoorShelf
import Derived.Test.YtlckgdgmanmbhaaDoorDigI
import Derived.Test.YtlckgdgmanmbhaaDoorClockB
import Derived.Test.YtlckgdgmanmbhaaDoorClockE
import Derived.WalkKit
import Derived.IntWalk
import Derived.Lib.Hide
import Derived.Lib.ItoaLen
import Derived.Lib.ItoaMem
import Derived.WalkSpells
import Derived.WalkLawsBesides
import Derived.Laws.IdiomStrings
import Derived.Laws.StructEq
import Derived.Deep.QuietTactic
import Derived.BigQuiet
import Derived.BigRegion
import Derived.Deep.LoopGhost
import Derived.OwnWalk
namespace Go.Proofs.YtlckgdgmanmbhaaDoor
open Go.RowKit Go.Sort
set_option linter.unusedSimpArgs false
set_option linter.unusedVariables false
/-- the digits of a time, as a number -/
def nf (x : Nat → Nat) : Nat → Int
  | 0 => 0
  | k + 1 => if k % 3 = 2 then nf x k else 10 * nf x k + x k - 48
theorem nf_skip (x : Nat → Nat) (k : Nat) (h : k % 3 = 2) : nf x (k + 1) = nf x k := if_pos h
theorem nf_go (x : Nat → Nat) (k : Nat) (h : ¬ k % 3 = 2) : nf x (k + 1) = 10 * nf x k + x k - 48 := if_neg h
theorem nf_all (x : Nat → Nat) : nf x 0 = 0 ∧ nf x 1 = 10 * nf x 0 + x 0 - 48 ∧ nf x 2 = 10 * nf x 1 + x 1 - 48 ∧ nf x 3 = nf x 2 ∧ nf x 4 = 10 * nf x 3 + x 3 - 48 ∧ nf x 5 = 10 * nf x 4 + x 4 - 48 ∧ nf x 6 = nf x 5 ∧ nf x 7 = 10 * nf x 6 + x 6 - 48 ∧ nf x 8 = 10 * nf x 7 + x 7 - 48 :=
  ⟨rfl, nf_go x 0 (by decide), nf_go x 1 (by decide), nf_skip x 2 (by decide), nf_go x 3 (by decide), nf_go x 4 (by decide), nf_skip x 5 (by decide), nf_go x 6 (by decide), nf_go x 7 (by decide)⟩
theorem nf_bd (x : Nat → Nat) (hx : ∀ k, x k < 256) : ∀ k, k ≤ 8 → -5333328 ≤ nf x k ∧ nf x k ≤ 22999977 := fun k hk => by
  obtain ⟨e0, e1, e2, e3, e4, e5, e6, e7, e8⟩ := nf_all x
  have := hx 0; have := hx 1; have := hx 3; have := hx 4; have := hx 6; have := hx 7
  rcases (by omega : k = 0 ∨ k = 1 ∨ k = 2 ∨ k = 3 ∨ k = 4 ∨ k = 5 ∨ k = 6 ∨ k = 7 ∨ k = 8) with rfl | rfl | rfl | rfl | rfl | rfl | rfl | rfl | rfl <;> omega
def rsV (N : Int) : Int := N.tdiv 10000 * 3600 + (N.tdiv 100).tmod 100 * 60 + N.tmod 100
theorem td_bd (n : Int) (k : Nat) (h : -5333328 ≤ n ∧ n ≤ 22999977) : -22999977 ≤ n.tdiv k ∧ n.tdiv k ≤ 22999977 := by
  have e : (n.tdiv k).natAbs = n.natAbs / (k : Int).natAbs := Int.natAbs_tdiv n k
  have := Nat.div_le_self n.natAbs (k : Int).natAbs
  rw [← e] at this
  omega
theorem tm_bd (n : Int) : -100 < n.tmod 100 ∧ n.tmod 100 < 100 := by
  have e : (n.tmod 100).natAbs = n.natAbs % 100 := Int.natAbs_tmod n 100
  have := Nat.mod_lt n.natAbs (show 0 < 100 by omega)
  omega
/-- the bytes of a text -/
def byN (L : List UInt8) (k : Nat) : Nat := (L.getD k 0).toNat
theorem byN_lt (L : List UInt8) (k : Nat) : byN L k < 256 := UInt8.toNat_lt _
theorem byN_at (L : List UInt8) (k : Nat) : ∀ h : k < (bL L).size, ((bL L)[k]'h).toNat = byN L k := fun h => by
  have hk : k < L.length := by rw [bL_size] at h; exact h
  rw [bL_at L k h hk]
  unfold byN
  rw [List.getD_eq_getElem?_getD, List.getElem?_eq_getElem hk]; rfl
theorem rs_hms (q : Nat) (hq : q < 86400) : rsV (nf (byN (hms q)) 8) = q := by
  obtain ⟨e0, e1, e2, e3, e4, e5, e6, e7, e8⟩ := nf_all (byN (hms q))
  have hl := hms_list q
  have b0 : byN (hms q) 0 = 48 + q / 3600 / 10 := by rw [hl]; exact dgt_nat (by omega)
  have b1 : byN (hms q) 1 = 48 + q / 3600 % 10 := by rw [hl]; exact dgt_nat (by omega)
  have b3 : byN (hms q) 3 = 48 + q % 3600 / 60 / 10 := by rw [hl]; exact dgt_nat (by omega)
  have b4 : byN (hms q) 4 = 48 + q % 3600 / 60 % 10 := by rw [hl]; exact dgt_nat (by omega)
  have b6 : byN (hms q) 6 = 48 + q % 60 / 10 := by rw [hl]; exact dgt_nat (by omega)
  have b7 : byN (hms q) 7 = 48 + q % 60 % 10 := by rw [hl]; exact dgt_nat (by omega)
  obtain ⟨N, hN⟩ : ∃ N, nf (byN (hms q)) 8 = N := ⟨_, rfl⟩
  have hNv : N = (10000 * (q / 3600) + 100 * (q % 3600 / 60) + q % 60 : Nat) := by omega
  rw [hN]
  unfold rsV
  rw [Int.tdiv_eq_ediv_of_nonneg (by omega), Int.tdiv_eq_ediv_of_nonneg (by omega), Int.tmod_eq_emod_of_nonneg (by omega), Int.tmod_eq_emod_of_nonneg (by omega)]
  omega
theorem ckL_hms (X : Int) (h0 : 0 ≤ X) (h1 : X < 86400) : ckL X = hms X.toNat := by
  unfold ckL
  rw [if_neg (by omega)]
  unfold ckP
  rw [if_pos (by omega)]
  congr 1; omega
/-- is it a time of day? -/
def gdT (X : Int) (D : List UInt8) : Prop := 0 ≤ X ∧ X < 86400 ∧ D = hms X.toNat
instance (X : Int) (D : List UInt8) : Decidable (gdT X D) := inferInstanceAs (Decidable (_ ∧ _ ∧ _))
def xOf (D : List UInt8) : Int := rsV (nf (byN D) 8)
theorem gd_iff (D : List UInt8) : gdT (xOf D) D ↔ ∃ q, q < 86400 ∧ D = hms q := by
  constructor
  · rintro ⟨h0, h1, h2⟩; exact ⟨_, by omega, h2⟩
  · rintro ⟨q, hq, rfl⟩
    have e : xOf (hms q) = q := rs_hms q hq
    exact ⟨by omega, by omega, by rw [e]; rfl⟩
def rbB (n r : Int) (m : Bool) : Prop := r = 20 ∨ (r = 10 ∧ m = true) ∨ (r = 0 ∧ n < 1)
def rbG (n r X : Int) : Prop := r = 10 ∨ 12725829 < n ∨ 1099511627776 < n * 86400 + X
instance (n r : Int) (m : Bool) : Decidable (rbB n r m) := inferInstanceAs (Decidable (_ ∨ _ ∨ _))
instance (n r X : Int) : Decidable (rbG n r X) := inferInstanceAs (Decidable (_ ∨ _ ∨ _))
def rdN (n r X : Int) (m : Bool) : Int := if rbB n r m then 0 else if rbG n r X then 0 else n * 86400 + X
def rdE (n r X : Int) (m : Bool) : Int := if rbB n r m then 20 else if rbG n r X then 10 else 0
set_option maxRecDepth 100000 in
set_option maxHeartbeats 8000000 in
theorem rr_n_bad (s : ByteArray) (D : List UInt8) (w : World) (hl : s.size ≤ 200) (hf : ∀ k (h : k < s.size), (s[k]'h).toNat ≠ 100) (hD : s.extract 0 s.size = bL D) (h8 : D.length ≠ 8) :
    Calls Tryd.prog 7 #[.string s] w fun e w' => e = .returned (.tuple #[.int .i64 0, .int .i64 20]) ∧ Below w.heap.size w w' := by
  obtain ⟨R, hR⟩ : ∃ R : Ending → World → Prop, (fun (e : Ending) (w' : World) => e = .returned (.tuple #[.int .i64 0, .int .i64 20]) ∧ Below w.heap.size w w') = R := ⟨_, rfl⟩
  have HF : Hid (R (.returned (.tuple #[.int .i64 0, .int .i64 20])) w) := Lib.hid (by rw [← hR]; exact ⟨rfl, Below.refl _ _⟩)
  rw [hR]
  have HFF := Lib.hid hf

  have hds : (bL D).size = D.length := bL_size D
  have hsz : (((bL D).size : Int) != 8) = true := by simp; omega
  generalize bL D = d at *
  clear hR hf h8 
  go_enter Tryd.func7, Tryd.ntmps7
  go_wp2_with fail
  go_loopw [4, 5] (fun a i wr => ∃ k : Nat, k ≤ s.size ∧ i = .int .i64 k ∧ a = .int .i64 (-1) ∧ w = wr) (fun _ i _ => s.size - (intOf i).toNat)
  case atStart => exact ⟨0, Nat.zero_le _, rfl, rfl, rfl⟩
  obtain ⟨k, hk, rfl, rfl, rfl⟩ := hrel
  by_cases hks : k < s.size
  · have hv := HFF.out k hks
    have hki : (k : Int) < (s.size : Int) := by omega
    have hvI : (((s[k]'hks).toNat : Int) == 100) = false := by rw [beq_eq_false_iff_ne]; omega
    go_wp2_with fail
    go_roundw
    case rel =>
      refine ⟨k + 1, by omega, ?_⟩
      first | trivial | (simp; done) | (refine ⟨by go_num, ?_⟩; simp)
    case measure => simp [intOf] <;> omega
  obtain rfl : k = s.size := by omega
  clear HFF
  go_wp2_with fail
  exact HF.out
set_option maxRecDepth 100000 in
set_option maxHeartbeats 16000000 in
theorem rr_n (s : ByteArray) (D : List UInt8) (w : World) (hl : s.size ≤ 200) (hf : ∀ k (h : k < s.size), (s[k]'h).toNat ≠ 100) (hD : s.extract 0 s.size = bL D) (h8 : D.length = 8) :
    Calls Tryd.prog 7 #[.string s] w fun e w' => e = .returned (.tuple #[.int .i64 (if gdT (xOf D) D then xOf D else 0), .int .i64 (if gdT (xOf D) D then 0 else 20)]) ∧ Below w.heap.size w w' := by
  have HXX : Hid (rsV (nf (byN D) 8) = xOf D) := Lib.hid rfl
  obtain ⟨R, hR⟩ : ∃ R : Ending → World → Prop, (fun (e : Ending) (w' : World) => e = .returned (.tuple #[.int .i64 (if gdT (xOf D) D then xOf D else 0), .int .i64 (if gdT (xOf D) D then 0 else 20)]) ∧ Below w.heap.size w w') = R := ⟨_, rfl⟩
  rw [hR]
  obtain ⟨X, hX⟩ : ∃ X, xOf D = X := ⟨_, rfl⟩
  rw [hX] at hR HXX
  have HBAD2 : Hid (∀ V, Below w.heap.size w V → ¬ gdT X D → R (.returned (.tuple #[.int .i64 0, .int .i64 20])) V) := Lib.hid (fun V hV h => by rw [← hR, if_neg h, if_neg h]; exact ⟨rfl, hV⟩)
  have HBAD : Hid (¬ gdT X D → R (.returned (.tuple #[.int .i64 0, .int .i64 20])) w) := Lib.hid (fun h => HBAD2.out w (Below.refl _ _) h)
  have HOK : Hid (∀ V, Below w.heap.size w V → gdT X D → R (.returned (.tuple #[.int .i64 X, .int .i64 0])) V) := Lib.hid (fun V hV h => by rw [← hR, if_pos h, if_pos h]; exact ⟨rfl, hV⟩)
  have HFF := Lib.hid hf

  have hds : (bL D).size = 8 := by rw [bL_size]; exact h8
  have HX := Lib.hid (byN_at D)
  have HXB := Lib.hid (byN_lt D)
  have HNB := Lib.hid (nf_bd (byN D) (byN_lt D))
  obtain ⟨d, hdd⟩ : ∃ d, bL D = d := ⟨_, rfl⟩
  rw [hdd] at hds HX hD
  have HDD := Lib.hid hdd.symm
  generalize byN D = x at *
  clear hR hf h8 hdd hX 
  go_enter Tryd.func7, Tryd.ntmps7
  go_wp2_with fail
  go_loopw [4, 5] (fun a i wr => ∃ k : Nat, k ≤ s.size ∧ i = .int .i64 k ∧ a = .int .i64 (-1) ∧ w = wr) (fun _ i _ => s.size - (intOf i).toNat)
  case atStart => exact ⟨0, Nat.zero_le _, rfl, rfl, rfl⟩
  obtain ⟨k, hk, rfl, rfl, rfl⟩ := hrel
  by_cases hks : k < s.size
  · have hv := HFF.out k hks
    have hki : (k : Int) < (s.size : Int) := by omega
    have hvI : (((s[k]'hks).toNat : Int) == 100) = false := by rw [beq_eq_false_iff_ne]; omega
    go_wp2_with fail
    go_roundw
    case rel =>
      refine ⟨k + 1, by omega, ?_⟩
      first | trivial | (simp; done) | (refine ⟨by go_num, ?_⟩; simp)
    case measure => simp [intOf] <;> omega
  obtain rfl : k = s.size := by omega
  clear HFF
  go_wp2_with fail
  go_loopw [7, 8] (fun n i wr => ∃ k : Nat, k ≤ 8 ∧ i = .int .i64 k ∧ n = .int .i64 (nf x k) ∧ w = wr) (fun _ i _ => 8 - (intOf i).toNat)
  case atStart => exact ⟨0, by omega, rfl, rfl, rfl⟩
  obtain ⟨k, hk, rfl, rfl, rfl⟩ := hrel
  have hnb := HNB.out k hk
  obtain ⟨n0, hn0⟩ : ∃ z, nf x k = z := ⟨_, rfl⟩
  rw [hn0] at hnb ⊢
  rcases (by omega : k = 0 ∨ k = 1 ∨ k = 2 ∨ k = 3 ∨ k = 4 ∨ k = 5 ∨ k = 6 ∨ k = 7 ∨ k = 8) with rfl | rfl | rfl | rfl | rfl | rfl | rfl | rfl | rfl
  · have kd : 0 < d.size := by omega
    have gk := HX.out 0 kd
    have hxk := HXB.out 0
    obtain ⟨c, hc⟩ : ∃ c, x 0 = c := ⟨_, rfl⟩
    rw [hc] at gk hxk
    obtain ⟨y, hy⟩ : ∃ y, 10 * n0 = y := ⟨_, rfl⟩
    obtain ⟨u, hu⟩ : ∃ u, y + (c : Int) = u := ⟨_, rfl⟩
    obtain ⟨v, hv⟩ : ∃ v, u - 48 = v := ⟨_, rfl⟩
    have HNX : Hid (nf x 1 = v) := Lib.hid (by rw [nf_go x 0 (by decide), hn0, hc]; omega)
    have p1 : IntKind.i64.wrap (10 * n0) = y := by rw [hy]; exact IntWalk.i64_in _ (by omega)
    have p2 : wrap64 (10 * n0) = y := by rw [hy]; exact IntWalk.wrap64_in _ (by omega)
    have p3 : IntKind.i64.wrap (y + (c : Int)) = u := by rw [hu]; exact IntWalk.i64_in _ (by omega)
    have p4 : wrap64 (y + (c : Int)) = u := by rw [hu]; exact IntWalk.wrap64_in _ (by omega)
    have p5 : IntKind.i64.wrap (u - 48) = v := by rw [hv]; exact IntWalk.i64_in _ (by omega)
    have p6 : wrap64 (u - 48) = v := by rw [hv]; exact IntWalk.wrap64_in _ (by omega)
    have p7 : IntKind.i64.wrap (c : Int) = c := IntWalk.i64_in _ (by omega)
    have p8 : wrap64 (c : Int) = c := IntWalk.wrap64_in _ (by omega)
    clear hn0 hc hy hu hv hxk hnb
    go_wp2_with fail
    go_roundw
    case rel => first | exact ⟨1, by omega, by go_num, by rw [HNX.out], rfl⟩ | exact ⟨1, by omega, by go_num, by rw [HNX.out], trivial⟩ | exact ⟨1, by omega, by go_num, by rw [HNX.out]⟩
    case measure => simp [intOf]
  · have kd : 1 < d.size := by omega
    have gk := HX.out 1 kd
    have hxk := HXB.out 1
    obtain ⟨c, hc⟩ : ∃ c, x 1 = c := ⟨_, rfl⟩
    rw [hc] at gk hxk
    obtain ⟨y, hy⟩ : ∃ y, 10 * n0 = y := ⟨_, rfl⟩
    obtain ⟨u, hu⟩ : ∃ u, y + (c : Int) = u := ⟨_, rfl⟩
    obtain ⟨v, hv⟩ : ∃ v, u - 48 = v := ⟨_, rfl⟩
    have HNX : Hid (nf x 2 = v) := Lib.hid (by rw [nf_go x 1 (by decide), hn0, hc]; omega)
    have p1 : IntKind.i64.wrap (10 * n0) = y := by rw [hy]; exact IntWalk.i64_in _ (by omega)
    have p2 : wrap64 (10 * n0) = y := by rw [hy]; exact IntWalk.wrap64_in _ (by omega)
    have p3 : IntKind.i64.wrap (y + (c : Int)) = u := by rw [hu]; exact IntWalk.i64_in _ (by omega)
    have p4 : wrap64 (y + (c : Int)) = u := by rw [hu]; exact IntWalk.wrap64_in _ (by omega)
    have p5 : IntKind.i64.wrap (u - 48) = v := by rw [hv]; exact IntWalk.i64_in _ (by omega)
    have p6 : wrap64 (u - 48) = v := by rw [hv]; exact IntWalk.wrap64_in _ (by omega)
    have p7 : IntKind.i64.wrap (c : Int) = c := IntWalk.i64_in _ (by omega)
    have p8 : wrap64 (c : Int) = c := IntWalk.wrap64_in _ (by omega)
    clear hn0 hc hy hu hv hxk hnb
    go_wp2_with fail
    go_roundw
    case rel => first | exact ⟨2, by omega, by go_num, by rw [HNX.out], rfl⟩ | exact ⟨2, by omega, by go_num, by rw [HNX.out], trivial⟩ | exact ⟨2, by omega, by go_num, by rw [HNX.out]⟩
    case measure => simp [intOf]
  · have HNX : Hid (nf x 3 = n0) := Lib.hid (by rw [nf_skip x 2 (by decide), hn0])
    clear hn0
    go_wp2_with fail
    go_roundw
    case rel => first | exact ⟨3, by omega, by go_num, by rw [HNX.out], rfl⟩ | exact ⟨3, by omega, by go_num, by rw [HNX.out], trivial⟩ | exact ⟨3, by omega, by go_num, by rw [HNX.out]⟩
    case measure => simp [intOf]
  · have kd : 3 < d.size := by omega
    have gk := HX.out 3 kd
    have hxk := HXB.out 3
    obtain ⟨c, hc⟩ : ∃ c, x 3 = c := ⟨_, rfl⟩
    rw [hc] at gk hxk
    obtain ⟨y, hy⟩ : ∃ y, 10 * n0 = y := ⟨_, rfl⟩
    obtain ⟨u, hu⟩ : ∃ u, y + (c : Int) = u := ⟨_, rfl⟩
    obtain ⟨v, hv⟩ : ∃ v, u - 48 = v := ⟨_, rfl⟩
    have HNX : Hid (nf x 4 = v) := Lib.hid (by rw [nf_go x 3 (by decide), hn0, hc]; omega)
    have p1 : IntKind.i64.wrap (10 * n0) = y := by rw [hy]; exact IntWalk.i64_in _ (by omega)
    have p2 : wrap64 (10 * n0) = y := by rw [hy]; exact IntWalk.wrap64_in _ (by omega)
    have p3 : IntKind.i64.wrap (y + (c : Int)) = u := by rw [hu]; exact IntWalk.i64_in _ (by omega)
    have p4 : wrap64 (y + (c : Int)) = u := by rw [hu]; exact IntWalk.wrap64_in _ (by omega)
    have p5 : IntKind.i64.wrap (u - 48) = v := by rw [hv]; exact IntWalk.i64_in _ (by omega)
    have p6 : wrap64 (u - 48) = v := by rw [hv]; exact IntWalk.wrap64_in _ (by omega)
    have p7 : IntKind.i64.wrap (c : Int) = c := IntWalk.i64_in _ (by omega)
    have p8 : wrap64 (c : Int) = c := IntWalk.wrap64_in _ (by omega)
    clear hn0 hc hy hu hv hxk hnb
    go_wp2_with fail
    go_roundw
    case rel => first | exact ⟨4, by omega, by go_num, by rw [HNX.out], rfl⟩ | exact ⟨4, by omega, by go_num, by rw [HNX.out], trivial⟩ | exact ⟨4, by omega, by go_num, by rw [HNX.out]⟩
    case measure => simp [intOf]
  · have kd : 4 < d.size := by omega
    have gk := HX.out 4 kd
    have hxk := HXB.out 4
    obtain ⟨c, hc⟩ : ∃ c, x 4 = c := ⟨_, rfl⟩
    rw [hc] at gk hxk
    obtain ⟨y, hy⟩ : ∃ y, 10 * n0 = y := ⟨_, rfl⟩
    obtain ⟨u, hu⟩ : ∃ u, y + (c : Int) = u := ⟨_, rfl⟩
    obtain ⟨v, hv⟩ : ∃ v, u - 48 = v := ⟨_, rfl⟩
    have HNX : Hid (nf x 5 = v) := Lib.hid (by rw [nf_go x 4 (by decide), hn0, hc]; omega)
    have p1 : IntKind.i64.wrap (10 * n0) = y := by rw [hy]; exact IntWalk.i64_in _ (by omega)
    have p2 : wrap64 (10 * n0) = y := by rw [hy]; exact IntWalk.wrap64_in _ (by omega)
    have p3 : IntKind.i64.wrap (y + (c : Int)) = u := by rw [hu]; exact IntWalk.i64_in _ (by omega)
    have p4 : wrap64 (y + (c : Int)) = u := by rw [hu]; exact IntWalk.wrap64_in _ (by omega)
    have p5 : IntKind.i64.wrap (u - 48) = v := by rw [hv]; exact IntWalk.i64_in _ (by omega)
    have p6 : wrap64 (u - 48) = v := by rw [hv]; exact IntWalk.wrap64_in _ (by omega)
    have p7 : IntKind.i64.wrap (c : Int) = c := IntWalk.i64_in _ (by omega)
    have p8 : wrap64 (c : Int) = c := IntWalk.wrap64_in _ (by omega)
    clear hn0 hc hy hu hv hxk hnb
    go_wp2_with fail
    go_roundw
    case rel => first | exact ⟨5, by omega, by go_num, by rw [HNX.out], rfl⟩ | exact ⟨5, by omega, by go_num, by rw [HNX.out], trivial⟩ | exact ⟨5, by omega, by go_num, by rw [HNX.out]⟩
    case measure => simp [intOf]
  · have HNX : Hid (nf x 6 = n0) := Lib.hid (by rw [nf_skip x 5 (by decide), hn0])
    clear hn0
    go_wp2_with fail
    go_roundw
    case rel => first | exact ⟨6, by omega, by go_num, by rw [HNX.out], rfl⟩ | exact ⟨6, by omega, by go_num, by rw [HNX.out], trivial⟩ | exact ⟨6, by omega, by go_num, by rw [HNX.out]⟩
    case measure => simp [intOf]
  · have kd : 6 < d.size := by omega
    have gk := HX.out 6 kd
    have hxk := HXB.out 6
    obtain ⟨c, hc⟩ : ∃ c, x 6 = c := ⟨_, rfl⟩
    rw [hc] at gk hxk
    obtain ⟨y, hy⟩ : ∃ y, 10 * n0 = y := ⟨_, rfl⟩
    obtain ⟨u, hu⟩ : ∃ u, y + (c : Int) = u := ⟨_, rfl⟩
    obtain ⟨v, hv⟩ : ∃ v, u - 48 = v := ⟨_, rfl⟩
    have HNX : Hid (nf x 7 = v) := Lib.hid (by rw [nf_go x 6 (by decide), hn0, hc]; omega)
    have p1 : IntKind.i64.wrap (10 * n0) = y := by rw [hy]; exact IntWalk.i64_in _ (by omega)
    have p2 : wrap64 (10 * n0) = y := by rw [hy]; exact IntWalk.wrap64_in _ (by omega)
    have p3 : IntKind.i64.wrap (y + (c : Int)) = u := by rw [hu]; exact IntWalk.i64_in _ (by omega)
    have p4 : wrap64 (y + (c : Int)) = u := by rw [hu]; exact IntWalk.wrap64_in _ (by omega)
    have p5 : IntKind.i64.wrap (u - 48) = v := by rw [hv]; exact IntWalk.i64_in _ (by omega)
    have p6 : wrap64 (u - 48) = v := by rw [hv]; exact IntWalk.wrap64_in _ (by omega)
    have p7 : IntKind.i64.wrap (c : Int) = c := IntWalk.i64_in _ (by omega)
    have p8 : wrap64 (c : Int) = c := IntWalk.wrap64_in _ (by omega)
    clear hn0 hc hy hu hv hxk hnb
    go_wp2_with fail
    go_roundw
    case rel => first | exact ⟨7, by omega, by go_num, by rw [HNX.out], rfl⟩ | exact ⟨7, by omega, by go_num, by rw [HNX.out], trivial⟩ | exact ⟨7, by omega, by go_num, by rw [HNX.out]⟩
    case measure => simp [intOf]
  · have kd : 7 < d.size := by omega
    have gk := HX.out 7 kd
    have hxk := HXB.out 7
    obtain ⟨c, hc⟩ : ∃ c, x 7 = c := ⟨_, rfl⟩
    rw [hc] at gk hxk
    obtain ⟨y, hy⟩ : ∃ y, 10 * n0 = y := ⟨_, rfl⟩
    obtain ⟨u, hu⟩ : ∃ u, y + (c : Int) = u := ⟨_, rfl⟩
    obtain ⟨v, hv⟩ : ∃ v, u - 48 = v := ⟨_, rfl⟩
    have HNX : Hid (nf x 8 = v) := Lib.hid (by rw [nf_go x 7 (by decide), hn0, hc]; omega)
    have p1 : IntKind.i64.wrap (10 * n0) = y := by rw [hy]; exact IntWalk.i64_in _ (by omega)
    have p2 : wrap64 (10 * n0) = y := by rw [hy]; exact IntWalk.wrap64_in _ (by omega)
    have p3 : IntKind.i64.wrap (y + (c : Int)) = u := by rw [hu]; exact IntWalk.i64_in _ (by omega)
    have p4 : wrap64 (y + (c : Int)) = u := by rw [hu]; exact IntWalk.wrap64_in _ (by omega)
    have p5 : IntKind.i64.wrap (u - 48) = v := by rw [hv]; exact IntWalk.i64_in _ (by omega)
    have p6 : wrap64 (u - 48) = v := by rw [hv]; exact IntWalk.wrap64_in _ (by omega)
    have p7 : IntKind.i64.wrap (c : Int) = c := IntWalk.i64_in _ (by omega)
    have p8 : wrap64 (c : Int) = c := IntWalk.wrap64_in _ (by omega)
    clear hn0 hc hy hu hv hxk hnb
    go_wp2_with fail
    go_roundw
    case rel => first | exact ⟨8, by omega, by go_num, by rw [HNX.out], rfl⟩ | exact ⟨8, by omega, by go_num, by rw [HNX.out], trivial⟩ | exact ⟨8, by omega, by go_num, by rw [HNX.out]⟩
    case measure => simp [intOf]
  have HN0 : Hid (rsV n0 = X) := Lib.hid (by rw [← hn0]; exact HXX.out)
  have ta := td_bd n0 10000 hnb
  have tb := td_bd n0 100 hnb
  have tc := tm_bd (n0.tdiv 100)
  have td := tm_bd n0
  have hXe := HN0.out
  unfold rsV at hXe
  clear hn0 HXX
  obtain ⟨a1, ha1⟩ : ∃ z, n0.tdiv 10000 = z := ⟨_, rfl⟩
  obtain ⟨a2, ha2⟩ : ∃ z, n0.tdiv 100 = z := ⟨_, rfl⟩
  obtain ⟨a4, ha4⟩ : ∃ z, n0.tmod 100 = z := ⟨_, rfl⟩
  have ta : -22999977 ≤ a1 ∧ a1 ≤ 22999977 := by rw [← ha1]; exact ta
  have tb : -22999977 ≤ a2 ∧ a2 ≤ 22999977 := by rw [← ha2]; exact tb
  rw [ha2] at tc
  rw [ha4] at td
  rw [ha1, ha2, ha4] at hXe
  obtain ⟨a3, ha3⟩ : ∃ z, a2.tmod 100 = z := ⟨_, rfl⟩
  rw [ha3] at tc hXe
  obtain ⟨b1, hb1⟩ : ∃ z, a1 * 3600 = z := ⟨_, rfl⟩
  obtain ⟨b2, hb2⟩ : ∃ z, a3 * 60 = z := ⟨_, rfl⟩
  rw [hb1, hb2] at hXe
  obtain ⟨b3, hb3⟩ : ∃ z, b1 + b2 = z := ⟨_, rfl⟩
  rw [hb3] at hXe
  have w1 : IntKind.i64.wrap (a1 * 3600) = b1 := by rw [hb1]; exact IntWalk.i64_in _ (by omega)
  have w2 : wrap64 (a1 * 3600) = b1 := by rw [hb1]; exact IntWalk.wrap64_in _ (by omega)
  have w3 : IntKind.i64.wrap (a3 * 60) = b2 := by rw [hb2]; exact IntWalk.i64_in _ (by omega)
  have w4 : wrap64 (a3 * 60) = b2 := by rw [hb2]; exact IntWalk.wrap64_in _ (by omega)
  have w5 : IntKind.i64.wrap (b1 + b2) = b3 := by rw [hb3]; exact IntWalk.i64_in _ (by omega)
  have w6 : wrap64 (b1 + b2) = b3 := by rw [hb3]; exact IntWalk.wrap64_in _ (by omega)
  have w7 : IntKind.i64.wrap (b3 + a4) = X := by rw [hXe]; exact IntWalk.i64_in _ (by omega)
  have w8 : wrap64 (b3 + a4) = X := by rw [hXe]; exact IntWalk.wrap64_in _ (by omega)
  have u1 : IntKind.i64.wrap a1 = a1 := IntWalk.i64_in _ (by omega)
  have u2 : wrap64 a1 = a1 := IntWalk.wrap64_in _ (by omega)
  have u3 : IntKind.i64.wrap a2 = a2 := IntWalk.i64_in _ (by omega)
  have u4 : wrap64 a2 = a2 := IntWalk.wrap64_in _ (by omega)
  clear hb1 hb2 hb3 hXe ta tb tc td HN0 hnb
  by_cases hX0 : X < 0
  · have HF := Lib.hid (HBAD.out (fun q => by have := q.1; omega))
    go_wp2_with fail
    exact HF.out
  by_cases hX1 : 86400 ≤ X
  · have HF := Lib.hid (HBAD.out (fun q => by have := q.2.1; omega))
    go_wp2_with fail
    exact HF.out
  have hX0' : 0 ≤ X := by omega
  have hX1' : X < 86400 := by omega
  have KT := rctext_any X w (by omega) (by omega)
  rw [ckL_hms X hX0' hX1'] at KT
  have KT := Lib.hid KT
  obtain ⟨tt, htt⟩ : ∃ t, (ByteArray.mk (hms X.toNat).toArray) = t := ⟨_, rfl⟩
  rw [htt] at KT
  have HTT := Lib.hid (show tt = bL (hms X.toNat) from htt.symm)
  clear htt
  go_wp2_with fail
  refine KT.out.mono ?_
  rintro e w2' ⟨rfl, hb⟩
  have EE := Lib.hid hb
  clear hb w1 w2 w3 w4 w5 w6 w7 w8 u1 u2 u3 u4
  by_cases hDD : D = hms X.toNat
  · have hte : tt = d := by rw [HTT.out, HDD.out, hDD]
    have HG : Hid (gdT X D) := Lib.hid ⟨hX0', hX1', hDD⟩
    clear hDD HBAD
    subst hte
    have HF := Lib.hid (HOK.out w2' EE.out HG.out)
    go_wp2_with fail
    exact HF.out
  · have hcmp : (tt.toList == d.toList) = false := by rw [HTT.out, HDD.out, bL_list, bL_list]; exact ne_of (fun e => hDD e.symm)
    have HF := Lib.hid (HBAD2.out w2' EE.out (fun q => hDD q.2.2))
    go_wp2_with fail
    exact HF.out
set_option maxRecDepth 100000 in
set_option maxHeartbeats 8000000 in
theorem rr_d_bad (s : ByteArray) (D : List UInt8) (w : World) (hl : s.size ≤ 200) (fst : Nat) (hfs : fst < s.size) (hf : ∀ k (h : k < fst), (s[k]'(by omega)).toNat ≠ 100) (h100 : (s[fst]'hfs).toNat = 100) (hD : s.extract (fst + 1) s.size = bL D) (h8 : D.length ≠ 8) :
    Calls Tryd.prog 7 #[.string s] w fun e w' => e = .returned (.tuple #[.int .i64 0, .int .i64 20]) ∧ Below w.heap.size w w' := by
  obtain ⟨R, hR⟩ : ∃ R : Ending → World → Prop, (fun (e : Ending) (w' : World) => e = .returned (.tuple #[.int .i64 0, .int .i64 20]) ∧ Below w.heap.size w w') = R := ⟨_, rfl⟩
  have HF : Hid (R (.returned (.tuple #[.int .i64 0, .int .i64 20])) w) := Lib.hid (by rw [← hR]; exact ⟨rfl, Below.refl _ _⟩)
  rw [hR]
  have HFF := Lib.hid hf
  have H100 := Lib.hid h100
  have hds : (bL D).size = D.length := bL_size D
  have hsz : (((bL D).size : Int) != 8) = true := by simp; omega
  generalize bL D = d at *
  clear hR hf h8 h100
  go_enter Tryd.func7, Tryd.ntmps7
  go_wp2_with fail
  go_loopw [4, 5] (fun a i wr => ∃ (k : Nat) (z : Int), k ≤ s.size ∧ i = .int .i64 k ∧ a = .int .i64 z ∧ Hid ((k ≤ fst ∧ z = -1) ∨ (fst < k ∧ z = fst)) ∧ w = wr) (fun _ i _ => s.size - (intOf i).toNat)
  case atStart => exact ⟨0, -1, Nat.zero_le _, rfl, rfl, Lib.hid (Or.inl ⟨Nat.zero_le _, rfl⟩), rfl⟩
  obtain ⟨k, z, hk, rfl, rfl, HZ, rfl⟩ := hrel
  by_cases hks : k < s.size
  · have hki : (k : Int) < (s.size : Int) := by omega
    by_cases hkf : k < fst
    · have hv := HFF.out k hkf
      have hvI : (((s[k]'hks).toNat : Int) == 100) = false := by rw [beq_eq_false_iff_ne]; omega
      have HZ2 : Hid ((k + 1 ≤ fst ∧ z = -1) ∨ (fst < k + 1 ∧ z = fst)) := Lib.hid (by have := HZ.out; omega)
      go_wp2_with fail
      go_roundw
      case rel => refine ⟨k + 1, z, by omega, by go_num, ?_⟩; first | exact ⟨rfl, HZ2, rfl⟩ | exact ⟨rfl, HZ2, trivial⟩ | exact ⟨HZ2, rfl⟩ | exact ⟨HZ2, trivial⟩ | exact ⟨trivial, HZ2, trivial⟩ | exact ⟨rfl, HZ2⟩ | exact HZ2
      case measure => simp [intOf] <;> omega
    · by_cases hke : k = fst
      · subst hke
        have hz : z = -1 := by have := HZ.out; omega
        subst hz
        have hv := H100.out
        have HZ2 : Hid ((k + 1 ≤ k ∧ (k : Int) = -1) ∨ (k < k + 1 ∧ (k : Int) = k)) := Lib.hid (Or.inr ⟨by omega, rfl⟩)
        go_wp2_with fail
        go_roundw
        case rel => refine ⟨k + 1, k, by omega, by go_num, ?_⟩; first | exact ⟨rfl, HZ2, rfl⟩ | exact ⟨rfl, HZ2, trivial⟩ | exact ⟨HZ2, rfl⟩ | exact ⟨HZ2, trivial⟩ | exact ⟨trivial, HZ2, trivial⟩ | exact ⟨rfl, HZ2⟩ | exact HZ2
        case measure => simp [intOf] <;> omega
      · have hz : z = fst := by have := HZ.out; omega
        subst hz
        have HZ2 : Hid ((k + 1 ≤ fst ∧ (fst : Int) = -1) ∨ (fst < k + 1 ∧ (fst : Int) = fst)) := Lib.hid (Or.inr ⟨by omega, rfl⟩)
        have hzn : ¬ (fst : Int) < 0 := by omega
        by_cases hv : (s[k]'hks).toNat = 100
        · go_wp2_with fail
          go_roundw
          case rel => refine ⟨k + 1, fst, by omega, by go_num, ?_⟩; first | exact ⟨rfl, HZ2, rfl⟩ | exact ⟨rfl, HZ2, trivial⟩ | exact ⟨HZ2, rfl⟩ | exact ⟨HZ2, trivial⟩ | exact ⟨trivial, HZ2, trivial⟩ | exact ⟨rfl, HZ2⟩ | exact HZ2
          case measure => simp [intOf] <;> omega
        · have hvI : (((s[k]'hks).toNat : Int) == 100) = false := by rw [beq_eq_false_iff_ne]; omega
          go_wp2_with fail
          go_roundw
          case rel => refine ⟨k + 1, fst, by omega, by go_num, ?_⟩; first | exact ⟨rfl, HZ2, rfl⟩ | exact ⟨rfl, HZ2, trivial⟩ | exact ⟨HZ2, rfl⟩ | exact ⟨HZ2, trivial⟩ | exact ⟨trivial, HZ2, trivial⟩ | exact ⟨rfl, HZ2⟩ | exact HZ2
          case measure => simp [intOf] <;> omega
  obtain rfl : k = s.size := by omega
  have hz : z = fst := by have := HZ.out; omega
  subst hz
  clear HZ HFF H100
  have r1 : (0 : Int) ≤ (fst : Int) + 1 := by omega
  have r2 : (fst : Int) + 1 ≤ (s.size : Int) := by omega
  have r3 : fst + 1 ≤ s.size := by omega
  have r4 : ((fst : Int) + 1).toNat = fst + 1 := by omega
  have q1 : IntKind.i64.wrap ((fst : Int) + 1) = (fst : Int) + 1 := IntWalk.i64_in _ (by omega)
  have q2 : wrap64 ((fst : Int) + 1) = (fst : Int) + 1 := IntWalk.wrap64_in _ (by omega)
  go_wp2_with fail
  clear q1 q2 r1 r2 r3 r4
  exact HF.out
set_option maxRecDepth 100000 in
set_option maxHeartbeats 16000000 in
theorem rr_d (s : ByteArray) (A : ByteArray) (D : List UInt8) (n r : Int) (m : Bool) (w : World) (hl : s.size ≤ 200) (fst : Nat) (hfs : fst < s.size) (hf : ∀ k (h : k < fst), (s[k]'(by omega)).toNat ≠ 100) (h100 : (s[fst]'hfs).toNat = 100) (hD : s.extract (fst + 1) s.size = bL D) (h8 : D.length = 8) (hA : s.extract 0 fst = A)
    (hd2 : ∀ w, Calls Tryd.prog 23 #[.string A] w fun e w' => e = .returned (.tuple #[.int .i64 n, .int .i64 r]) ∧ w = w') (hr3 : r = 0 ∨ r = 10 ∨ r = 20) (hs0 : 0 < s.size) (hm : ∀ h : 0 < s.size, (s[0]'h).toNat = 45 ↔ m = true) (hnb : -9223372036854775808 ≤ n) :
    Calls Tryd.prog 7 #[.string s] w fun e w' => e = .returned (.tuple #[.int .i64 (if gdT (xOf D) D then rdN n r (xOf D) m else 0), .int .i64 (if gdT (xOf D) D then rdE n r (xOf D) m else 20)]) ∧ Below w.heap.size w w' := by
  have HXX : Hid (rsV (nf (byN D) 8) = xOf D) := Lib.hid rfl
  obtain ⟨R, hR⟩ : ∃ R : Ending → World → Prop, (fun (e : Ending) (w' : World) => e = .returned (.tuple #[.int .i64 (if gdT (xOf D) D then rdN n r (xOf D) m else 0), .int .i64 (if gdT (xOf D) D then rdE n r (xOf D) m else 20)]) ∧ Below w.heap.size w w') = R := ⟨_, rfl⟩
  rw [hR]
  obtain ⟨X, hX⟩ : ∃ X, xOf D = X := ⟨_, rfl⟩
  rw [hX] at hR HXX
  have HBAD2 : Hid (∀ V, Below w.heap.size w V → ¬ gdT X D → R (.returned (.tuple #[.int .i64 0, .int .i64 20])) V) := Lib.hid (fun V hV h => by rw [← hR, if_neg h, if_neg h]; exact ⟨rfl, hV⟩)
  have HBAD : Hid (¬ gdT X D → R (.returned (.tuple #[.int .i64 0, .int .i64 20])) w) := Lib.hid (fun h => HBAD2.out w (Below.refl _ _) h)
  have HOK : Hid (∀ V, Below w.heap.size w V → gdT X D → ∀ a b : Int, rdN n r X m = a → rdE n r X m = b → R (.returned (.tuple #[.int .i64 a, .int .i64 b])) V) := Lib.hid (fun V hV h a b h1 h2 => by rw [← hR, if_pos h, if_pos h, h1, h2]; exact ⟨rfl, hV⟩)
  have KD := Lib.hid hd2
  have HR3 := Lib.hid hr3
  have HS0 := Lib.hid hs0
  have HM := Lib.hid hm
  have HFF := Lib.hid hf
  have H100 := Lib.hid h100
  have hds : (bL D).size = 8 := by rw [bL_size]; exact h8
  have HX := Lib.hid (byN_at D)
  have HXB := Lib.hid (byN_lt D)
  have HNB := Lib.hid (nf_bd (byN D) (byN_lt D))
  obtain ⟨d, hdd⟩ : ∃ d, bL D = d := ⟨_, rfl⟩
  rw [hdd] at hds HX hD
  have HDD := Lib.hid hdd.symm
  generalize byN D = x at *
  clear hR hf h8 hdd hX hd2 hr3 hs0 hm h100
  go_enter Tryd.func7, Tryd.ntmps7
  go_wp2_with fail
  go_loopw [4, 5] (fun a i wr => ∃ (k : Nat) (z : Int), k ≤ s.size ∧ i = .int .i64 k ∧ a = .int .i64 z ∧ Hid ((k ≤ fst ∧ z = -1) ∨ (fst < k ∧ z = fst)) ∧ w = wr) (fun _ i _ => s.size - (intOf i).toNat)
  case atStart => exact ⟨0, -1, Nat.zero_le _, rfl, rfl, Lib.hid (Or.inl ⟨Nat.zero_le _, rfl⟩), rfl⟩
  obtain ⟨k, z, hk, rfl, rfl, HZ, rfl⟩ := hrel
  by_cases hks : k < s.size
  · have hki : (k : Int) < (s.size : Int) := by omega
    by_cases hkf : k < fst
    · have hv := HFF.out k hkf
      have hvI : (((s[k]'hks).toNat : Int) == 100) = false := by rw [beq_eq_false_iff_ne]; omega
      have HZ2 : Hid ((k + 1 ≤ fst ∧ z = -1) ∨ (fst < k + 1 ∧ z = fst)) := Lib.hid (by have := HZ.out; omega)
      go_wp2_with fail
      go_roundw
      case rel => refine ⟨k + 1, z, by omega, by go_num, ?_⟩; first | exact ⟨rfl, HZ2, rfl⟩ | exact ⟨rfl, HZ2, trivial⟩ | exact ⟨HZ2, rfl⟩ | exact ⟨HZ2, trivial⟩ | exact ⟨trivial, HZ2, trivial⟩ | exact ⟨rfl, HZ2⟩ | exact HZ2
      case measure => simp [intOf] <;> omega
    · by_cases hke : k = fst
      · subst hke
        have hz : z = -1 := by have := HZ.out; omega
        subst hz
        have hv := H100.out
        have HZ2 : Hid ((k + 1 ≤ k ∧ (k : Int) = -1) ∨ (k < k + 1 ∧ (k : Int) = k)) := Lib.hid (Or.inr ⟨by omega, rfl⟩)
        go_wp2_with fail
        go_roundw
        case rel => refine ⟨k + 1, k, by omega, by go_num, ?_⟩; first | exact ⟨rfl, HZ2, rfl⟩ | exact ⟨rfl, HZ2, trivial⟩ | exact ⟨HZ2, rfl⟩ | exact ⟨HZ2, trivial⟩ | exact ⟨trivial, HZ2, trivial⟩ | exact ⟨rfl, HZ2⟩ | exact HZ2
        case measure => simp [intOf] <;> omega
      · have hz : z = fst := by have := HZ.out; omega
        subst hz
        have HZ2 : Hid ((k + 1 ≤ fst ∧ (fst : Int) = -1) ∨ (fst < k + 1 ∧ (fst : Int) = fst)) := Lib.hid (Or.inr ⟨by omega, rfl⟩)
        have hzn : ¬ (fst : Int) < 0 := by omega
        by_cases hv : (s[k]'hks).toNat = 100
        · go_wp2_with fail
          go_roundw
          case rel => refine ⟨k + 1, fst, by omega, by go_num, ?_⟩; first | exact ⟨rfl, HZ2, rfl⟩ | exact ⟨rfl, HZ2, trivial⟩ | exact ⟨HZ2, rfl⟩ | exact ⟨HZ2, trivial⟩ | exact ⟨trivial, HZ2, trivial⟩ | exact ⟨rfl, HZ2⟩ | exact HZ2
          case measure => simp [intOf] <;> omega
        · have hvI : (((s[k]'hks).toNat : Int) == 100) = false := by rw [beq_eq_false_iff_ne]; omega
          go_wp2_with fail
          go_roundw
          case rel => refine ⟨k + 1, fst, by omega, by go_num, ?_⟩; first | exact ⟨rfl, HZ2, rfl⟩ | exact ⟨rfl, HZ2, trivial⟩ | exact ⟨HZ2, rfl⟩ | exact ⟨HZ2, trivial⟩ | exact ⟨trivial, HZ2, trivial⟩ | exact ⟨rfl, HZ2⟩ | exact HZ2
          case measure => simp [intOf] <;> omega
  obtain rfl : k = s.size := by omega
  have hz : z = fst := by have := HZ.out; omega
  subst hz
  clear HZ HFF H100
  have r1 : (0 : Int) ≤ (fst : Int) + 1 := by omega
  have r2 : (fst : Int) + 1 ≤ (s.size : Int) := by omega
  have r3 : fst + 1 ≤ s.size := by omega
  have r4 : ((fst : Int) + 1).toNat = fst + 1 := by omega
  have q1 : IntKind.i64.wrap ((fst : Int) + 1) = (fst : Int) + 1 := IntWalk.i64_in _ (by omega)
  have q2 : wrap64 ((fst : Int) + 1) = (fst : Int) + 1 := IntWalk.wrap64_in _ (by omega)
  go_wp2_with fail
  clear q1 q2 r1 r2 r3 r4
  go_loopw [7, 8] (fun n i wr => ∃ k : Nat, k ≤ 8 ∧ i = .int .i64 k ∧ n = .int .i64 (nf x k) ∧ w = wr) (fun _ i _ => 8 - (intOf i).toNat)
  case atStart => exact ⟨0, by omega, rfl, rfl, rfl⟩
  obtain ⟨k, hk, rfl, rfl, rfl⟩ := hrel
  have hnb := HNB.out k hk
  obtain ⟨n0, hn0⟩ : ∃ z, nf x k = z := ⟨_, rfl⟩
  rw [hn0] at hnb ⊢
  rcases (by omega : k = 0 ∨ k = 1 ∨ k = 2 ∨ k = 3 ∨ k = 4 ∨ k = 5 ∨ k = 6 ∨ k = 7 ∨ k = 8) with rfl | rfl | rfl | rfl | rfl | rfl | rfl | rfl | rfl
  · have kd : 0 < d.size := by omega
    have gk := HX.out 0 kd
    have hxk := HXB.out 0
    obtain ⟨c, hc⟩ : ∃ c, x 0 = c := ⟨_, rfl⟩
    rw [hc] at gk hxk
    obtain ⟨y, hy⟩ : ∃ y, 10 * n0 = y := ⟨_, rfl⟩
    obtain ⟨u, hu⟩ : ∃ u, y + (c : Int) = u := ⟨_, rfl⟩
    obtain ⟨v, hv⟩ : ∃ v, u - 48 = v := ⟨_, rfl⟩
    have HNX : Hid (nf x 1 = v) := Lib.hid (by rw [nf_go x 0 (by decide), hn0, hc]; omega)
    have p1 : IntKind.i64.wrap (10 * n0) = y := by rw [hy]; exact IntWalk.i64_in _ (by omega)
    have p2 : wrap64 (10 * n0) = y := by rw [hy]; exact IntWalk.wrap64_in _ (by omega)
    have p3 : IntKind.i64.wrap (y + (c : Int)) = u := by rw [hu]; exact IntWalk.i64_in _ (by omega)
    have p4 : wrap64 (y + (c : Int)) = u := by rw [hu]; exact IntWalk.wrap64_in _ (by omega)
    have p5 : IntKind.i64.wrap (u - 48) = v := by rw [hv]; exact IntWalk.i64_in _ (by omega)
    have p6 : wrap64 (u - 48) = v := by rw [hv]; exact IntWalk.wrap64_in _ (by omega)
    have p7 : IntKind.i64.wrap (c : Int) = c := IntWalk.i64_in _ (by omega)
    have p8 : wrap64 (c : Int) = c := IntWalk.wrap64_in _ (by omega)
    clear hn0 hc hy hu hv hxk hnb
    go_wp2_with fail
    go_roundw
    case rel => first | exact ⟨1, by omega, by go_num, by rw [HNX.out], rfl⟩ | exact ⟨1, by omega, by go_num, by rw [HNX.out], trivial⟩ | exact ⟨1, by omega, by go_num, by rw [HNX.out]⟩
    case measure => simp [intOf]
  · have kd : 1 < d.size := by omega
    have gk := HX.out 1 kd
    have hxk := HXB.out 1
    obtain ⟨c, hc⟩ : ∃ c, x 1 = c := ⟨_, rfl⟩
    rw [hc] at gk hxk
    obtain ⟨y, hy⟩ : ∃ y, 10 * n0 = y := ⟨_, rfl⟩
    obtain ⟨u, hu⟩ : ∃ u, y + (c : Int) = u := ⟨_, rfl⟩
    obtain ⟨v, hv⟩ : ∃ v, u - 48 = v := ⟨_, rfl⟩
    have HNX : Hid (nf x 2 = v) := Lib.hid (by rw [nf_go x 1 (by decide), hn0, hc]; omega)
    have p1 : IntKind.i64.wrap (10 * n0) = y := by rw [hy]; exact IntWalk.i64_in _ (by omega)
    have p2 : wrap64 (10 * n0) = y := by rw [hy]; exact IntWalk.wrap64_in _ (by omega)
    have p3 : IntKind.i64.wrap (y + (c : Int)) = u := by rw [hu]; exact IntWalk.i64_in _ (by omega)
    have p4 : wrap64 (y + (c : Int)) = u := by rw [hu]; exact IntWalk.wrap64_in _ (by omega)
    have p5 : IntKind.i64.wrap (u - 48) = v := by rw [hv]; exact IntWalk.i64_in _ (by omega)
    have p6 : wrap64 (u - 48) = v := by rw [hv]; exact IntWalk.wrap64_in _ (by omega)
    have p7 : IntKind.i64.wrap (c : Int) = c := IntWalk.i64_in _ (by omega)
    have p8 : wrap64 (c : Int) = c := IntWalk.wrap64_in _ (by omega)
    clear hn0 hc hy hu hv hxk hnb
    go_wp2_with fail
    go_roundw
    case rel => first | exact ⟨2, by omega, by go_num, by rw [HNX.out], rfl⟩ | exact ⟨2, by omega, by go_num, by rw [HNX.out], trivial⟩ | exact ⟨2, by omega, by go_num, by rw [HNX.out]⟩
    case measure => simp [intOf]
  · have HNX : Hid (nf x 3 = n0) := Lib.hid (by rw [nf_skip x 2 (by decide), hn0])
    clear hn0
    go_wp2_with fail
    go_roundw
    case rel => first | exact ⟨3, by omega, by go_num, by rw [HNX.out], rfl⟩ | exact ⟨3, by omega, by go_num, by rw [HNX.out], trivial⟩ | exact ⟨3, by omega, by go_num, by rw [HNX.out]⟩
    case measure => simp [intOf]
  · have kd : 3 < d.size := by omega
    have gk := HX.out 3 kd
    have hxk := HXB.out 3
    obtain ⟨c, hc⟩ : ∃ c, x 3 = c := ⟨_, rfl⟩
    rw [hc] at gk hxk
    obtain ⟨y, hy⟩ : ∃ y, 10 * n0 = y := ⟨_, rfl⟩
    obtain ⟨u, hu⟩ : ∃ u, y + (c : Int) = u := ⟨_, rfl⟩
    obtain ⟨v, hv⟩ : ∃ v, u - 48 = v := ⟨_, rfl⟩
    have HNX : Hid (nf x 4 = v) := Lib.hid (by rw [nf_go x 3 (by decide), hn0, hc]; omega)
    have p1 : IntKind.i64.wrap (10 * n0) = y := by rw [hy]; exact IntWalk.i64_in _ (by omega)
    have p2 : wrap64 (10 * n0) = y := by rw [hy]; exact IntWalk.wrap64_in _ (by omega)
    have p3 : IntKind.i64.wrap (y + (c : Int)) = u := by rw [hu]; exact IntWalk.i64_in _ (by omega)
    have p4 : wrap64 (y + (c : Int)) = u := by rw [hu]; exact IntWalk.wrap64_in _ (by omega)
    have p5 : IntKind.i64.wrap (u - 48) = v := by rw [hv]; exact IntWalk.i64_in _ (by omega)
    have p6 : wrap64 (u - 48) = v := by rw [hv]; exact IntWalk.wrap64_in _ (by omega)
    have p7 : IntKind.i64.wrap (c : Int) = c := IntWalk.i64_in _ (by omega)
    have p8 : wrap64 (c : Int) = c := IntWalk.wrap64_in _ (by omega)
    clear hn0 hc hy hu hv hxk hnb
    go_wp2_with fail
    go_roundw
    case rel => first | exact ⟨4, by omega, by go_num, by rw [HNX.out], rfl⟩ | exact ⟨4, by omega, by go_num, by rw [HNX.out], trivial⟩ | exact ⟨4, by omega, by go_num, by rw [HNX.out]⟩
    case measure => simp [intOf]
  · have kd : 4 < d.size := by omega
    have gk := HX.out 4 kd
    have hxk := HXB.out 4
    obtain ⟨c, hc⟩ : ∃ c, x 4 = c := ⟨_, rfl⟩
    rw [hc] at gk hxk
    obtain ⟨y, hy⟩ : ∃ y, 10 * n0 = y := ⟨_, rfl⟩
    obtain ⟨u, hu⟩ : ∃ u, y + (c : Int) = u := ⟨_, rfl⟩
    obtain ⟨v, hv⟩ : ∃ v, u - 48 = v := ⟨_, rfl⟩
    have HNX : Hid (nf x 5 = v) := Lib.hid (by rw [nf_go x 4 (by decide), hn0, hc]; omega)
    have p1 : IntKind.i64.wrap (10 * n0) = y := by rw [hy]; exact IntWalk.i64_in _ (by omega)
    have p2 : wrap64 (10 * n0) = y := by rw [hy]; exact IntWalk.wrap64_in _ (by omega)
    have p3 : IntKind.i64.wrap (y + (c : Int)) = u := by rw [hu]; exact IntWalk.i64_in _ (by omega)
    have p4 : wrap64 (y + (c : Int)) = u := by rw [hu]; exact IntWalk.wrap64_in _ (by omega)
    have p5 : IntKind.i64.wrap (u - 48) = v := by rw [hv]; exact IntWalk.i64_in _ (by omega)
    have p6 : wrap64 (u - 48) = v := by rw [hv]; exact IntWalk.wrap64_in _ (by omega)
    have p7 : IntKind.i64.wrap (c : Int) = c := IntWalk.i64_in _ (by omega)
    have p8 : wrap64 (c : Int) = c := IntWalk.wrap64_in _ (by omega)
    clear hn0 hc hy hu hv hxk hnb
    go_wp2_with fail
    go_roundw
    case rel => first | exact ⟨5, by omega, by go_num, by rw [HNX.out], rfl⟩ | exact ⟨5, by omega, by go_num, by rw [HNX.out], trivial⟩ | exact ⟨5, by omega, by go_num, by rw [HNX.out]⟩
    case measure => simp [intOf]
  · have HNX : Hid (nf x 6 = n0) := Lib.hid (by rw [nf_skip x 5 (by decide), hn0])
    clear hn0
    go_wp2_with fail
    go_roundw
    case rel => first | exact ⟨6, by omega, by go_num, by rw [HNX.out], rfl⟩ | exact ⟨6, by omega, by go_num, by rw [HNX.out], trivial⟩ | exact ⟨6, by omega, by go_num, by rw [HNX.out]⟩
    case measure => simp [intOf]
  · have kd : 6 < d.size := by omega
    have gk := HX.out 6 kd
    have hxk := HXB.out 6
    obtain ⟨c, hc⟩ : ∃ c, x 6 = c := ⟨_, rfl⟩
    rw [hc] at gk hxk
    obtain ⟨y, hy⟩ : ∃ y, 10 * n0 = y := ⟨_, rfl⟩
    obtain ⟨u, hu⟩ : ∃ u, y + (c : Int) = u := ⟨_, rfl⟩
    obtain ⟨v, hv⟩ : ∃ v, u - 48 = v := ⟨_, rfl⟩
    have HNX : Hid (nf x 7 = v) := Lib.hid (by rw [nf_go x 6 (by decide), hn0, hc]; omega)
    have p1 : IntKind.i64.wrap (10 * n0) = y := by rw [hy]; exact IntWalk.i64_in _ (by omega)
    have p2 : wrap64 (10 * n0) = y := by rw [hy]; exact IntWalk.wrap64_in _ (by omega)
    have p3 : IntKind.i64.wrap (y + (c : Int)) = u := by rw [hu]; exact IntWalk.i64_in _ (by omega)
    have p4 : wrap64 (y + (c : Int)) = u := by rw [hu]; exact IntWalk.wrap64_in _ (by omega)
    have p5 : IntKind.i64.wrap (u - 48) = v := by rw [hv]; exact IntWalk.i64_in _ (by omega)
    have p6 : wrap64 (u - 48) = v := by rw [hv]; exact IntWalk.wrap64_in _ (by omega)
    have p7 : IntKind.i64.wrap (c : Int) = c := IntWalk.i64_in _ (by omega)
    have p8 : wrap64 (c : Int) = c := IntWalk.wrap64_in _ (by omega)
    clear hn0 hc hy hu hv hxk hnb
    go_wp2_with fail
    go_roundw
    case rel => first | exact ⟨7, by omega, by go_num, by rw [HNX.out], rfl⟩ | exact ⟨7, by omega, by go_num, by rw [HNX.out], trivial⟩ | exact ⟨7, by omega, by go_num, by rw [HNX.out]⟩
    case measure => simp [intOf]
  · have kd : 7 < d.size := by omega
    have gk := HX.out 7 kd
    have hxk := HXB.out 7
    obtain ⟨c, hc⟩ : ∃ c, x 7 = c := ⟨_, rfl⟩
    rw [hc] at gk hxk
    obtain ⟨y, hy⟩ : ∃ y, 10 * n0 = y := ⟨_, rfl⟩
    obtain ⟨u, hu⟩ : ∃ u, y + (c : Int) = u := ⟨_, rfl⟩
    obtain ⟨v, hv⟩ : ∃ v, u - 48 = v := ⟨_, rfl⟩
    have HNX : Hid (nf x 8 = v) := Lib.hid (by rw [nf_go x 7 (by decide), hn0, hc]; omega)
    have p1 : IntKind.i64.wrap (10 * n0) = y := by rw [hy]; exact IntWalk.i64_in _ (by omega)
    have p2 : wrap64 (10 * n0) = y := by rw [hy]; exact IntWalk.wrap64_in _ (by omega)
    have p3 : IntKind.i64.wrap (y + (c : Int)) = u := by rw [hu]; exact IntWalk.i64_in _ (by omega)
    have p4 : wrap64 (y + (c : Int)) = u := by rw [hu]; exact IntWalk.wrap64_in _ (by omega)
    have p5 : IntKind.i64.wrap (u - 48) = v := by rw [hv]; exact IntWalk.i64_in _ (by omega)
    have p6 : wrap64 (u - 48) = v := by rw [hv]; exact IntWalk.wrap64_in _ (by omega)
    have p7 : IntKind.i64.wrap (c : Int) = c := IntWalk.i64_in _ (by omega)
    have p8 : wrap64 (c : Int) = c := IntWalk.wrap64_in _ (by omega)
    clear hn0 hc hy hu hv hxk hnb
    go_wp2_with fail
    go_roundw
    case rel => first | exact ⟨8, by omega, by go_num, by rw [HNX.out], rfl⟩ | exact ⟨8, by omega, by go_num, by rw [HNX.out], trivial⟩ | exact ⟨8, by omega, by go_num, by rw [HNX.out]⟩
    case measure => simp [intOf]
  have HN0 : Hid (rsV n0 = X) := Lib.hid (by rw [← hn0]; exact HXX.out)
  have ta := td_bd n0 10000 hnb
  have tb := td_bd n0 100 hnb
  have tc := tm_bd (n0.tdiv 100)
  have td := tm_bd n0
  have hXe := HN0.out
  unfold rsV at hXe
  clear hn0 HXX
  obtain ⟨a1, ha1⟩ : ∃ z, n0.tdiv 10000 = z := ⟨_, rfl⟩
  obtain ⟨a2, ha2⟩ : ∃ z, n0.tdiv 100 = z := ⟨_, rfl⟩
  obtain ⟨a4, ha4⟩ : ∃ z, n0.tmod 100 = z := ⟨_, rfl⟩
  have ta : -22999977 ≤ a1 ∧ a1 ≤ 22999977 := by rw [← ha1]; exact ta
  have tb : -22999977 ≤ a2 ∧ a2 ≤ 22999977 := by rw [← ha2]; exact tb
  rw [ha2] at tc
  rw [ha4] at td
  rw [ha1, ha2, ha4] at hXe
  obtain ⟨a3, ha3⟩ : ∃ z, a2.tmod 100 = z := ⟨_, rfl⟩
  rw [ha3] at tc hXe
  obtain ⟨b1, hb1⟩ : ∃ z, a1 * 3600 = z := ⟨_, rfl⟩
  obtain ⟨b2, hb2⟩ : ∃ z, a3 * 60 = z := ⟨_, rfl⟩
  rw [hb1, hb2] at hXe
  obtain ⟨b3, hb3⟩ : ∃ z, b1 + b2 = z := ⟨_, rfl⟩
  rw [hb3] at hXe
  have w1 : IntKind.i64.wrap (a1 * 3600) = b1 := by rw [hb1]; exact IntWalk.i64_in _ (by omega)
  have w2 : wrap64 (a1 * 3600) = b1 := by rw [hb1]; exact IntWalk.wrap64_in _ (by omega)
  have w3 : IntKind.i64.wrap (a3 * 60) = b2 := by rw [hb2]; exact IntWalk.i64_in _ (by omega)
  have w4 : wrap64 (a3 * 60) = b2 := by rw [hb2]; exact IntWalk.wrap64_in _ (by omega)
  have w5 : IntKind.i64.wrap (b1 + b2) = b3 := by rw [hb3]; exact IntWalk.i64_in _ (by omega)
  have w6 : wrap64 (b1 + b2) = b3 := by rw [hb3]; exact IntWalk.wrap64_in _ (by omega)
  have w7 : IntKind.i64.wrap (b3 + a4) = X := by rw [hXe]; exact IntWalk.i64_in _ (by omega)
  have w8 : wrap64 (b3 + a4) = X := by rw [hXe]; exact IntWalk.wrap64_in _ (by omega)
  have u1 : IntKind.i64.wrap a1 = a1 := IntWalk.i64_in _ (by omega)
  have u2 : wrap64 a1 = a1 := IntWalk.wrap64_in _ (by omega)
  have u3 : IntKind.i64.wrap a2 = a2 := IntWalk.i64_in _ (by omega)
  have u4 : wrap64 a2 = a2 := IntWalk.wrap64_in _ (by omega)
  clear hb1 hb2 hb3 hXe ta tb tc td HN0 hnb
  by_cases hX0 : X < 0
  · have HF := Lib.hid (HBAD.out (fun q => by have := q.1; omega))
    go_wp2_with fail
    exact HF.out
  by_cases hX1 : 86400 ≤ X
  · have HF := Lib.hid (HBAD.out (fun q => by have := q.2.1; omega))
    go_wp2_with fail
    exact HF.out
  have hX0' : 0 ≤ X := by omega
  have hX1' : X < 86400 := by omega
  have KT := rctext_any X w (by omega) (by omega)
  rw [ckL_hms X hX0' hX1'] at KT
  have KT := Lib.hid KT
  obtain ⟨tt, htt⟩ : ∃ t, (ByteArray.mk (hms X.toNat).toArray) = t := ⟨_, rfl⟩
  rw [htt] at KT
  have HTT := Lib.hid (show tt = bL (hms X.toNat) from htt.symm)
  clear htt
  go_wp2_with fail
  refine KT.out.mono ?_
  rintro e w2' ⟨rfl, hb⟩
  have EE := Lib.hid hb
  clear hb w1 w2 w3 w4 w5 w6 w7 w8 u1 u2 u3 u4
  by_cases hDD : D = hms X.toNat
  · have hte : tt = d := by rw [HTT.out, HDD.out, hDD]
    have HG : Hid (gdT X D) := Lib.hid ⟨hX0', hX1', hDD⟩
    clear hDD HBAD
    subst hte
    have HRW := Lib.hid (HOK.out w2' EE.out HG.out)
    clear HOK
    have HBB : Hid (rbB n r m → R (.returned (.tuple #[.int .i64 0, .int .i64 20])) w2') := Lib.hid (fun h => HRW.out 0 20 (by unfold rdN; rw [if_pos h]) (by unfold rdE; rw [if_pos h]))
    have HBG : Hid (¬ rbB n r m → rbG n r X → R (.returned (.tuple #[.int .i64 0, .int .i64 10])) w2') := Lib.hid (fun h g => HRW.out 0 10 (by unfold rdN; rw [if_neg h, if_pos g]) (by unfold rdE; rw [if_neg h, if_pos g]))
    have HBO : Hid (¬ rbB n r m → ¬ rbG n r X → ∀ t, n * 86400 + X = t → R (.returned (.tuple #[.int .i64 t, .int .i64 0])) w2') := Lib.hid (fun h g t ht => HRW.out t 0 (by unfold rdN; rw [if_neg h, if_neg g, ht]) (by unfold rdE; rw [if_neg h, if_neg g]))
    have KD2 := Lib.hid (KD.out w2')
    clear KD HRW HG
    have j1 : (fst : Int) ≤ (s.size : Int) := by omega
    have j2 : ¬ (fst : Int) < 0 := by omega
    go_wp2_with fail
    refine KD2.out.mono ?_
    rintro e w3' ⟨rfl, rfl⟩
    clear KD2
    rcases HR3.out with rfl | rfl | rfl
    · by_cases hn1 : n < 1
      · have HF := Lib.hid (HBB.out (Or.inr (Or.inr ⟨rfl, hn1⟩)))
        clear HBB HBG HBO
        go_wp2_with fail
        exact HF.out
      have hnb : ¬ rbB n 0 m := by unfold rbB; simp; omega
      by_cases hd : 12725829 < n
      · have HF := Lib.hid (HBG.out hnb (Or.inr (Or.inl hd)))
        clear HBB HBG HBO hnb
        go_wp2_with fail
        exact HF.out
      · obtain ⟨x1, hx1⟩ : ∃ z, n * 86400 = z := ⟨_, rfl⟩
        obtain ⟨t, ht⟩ : ∃ t, x1 + X = t := ⟨_, rfl⟩
        have p1 : IntKind.i64.wrap (n * 86400) = x1 := by rw [hx1]; exact IntWalk.i64_in _ (by omega)
        have p2 : wrap64 (n * 86400) = x1 := by rw [hx1]; exact IntWalk.wrap64_in _ (by omega)
        have p3 : IntKind.i64.wrap (x1 + X) = t := by rw [ht]; exact IntWalk.i64_in _ (by omega)
        have p4 : wrap64 (x1 + X) = t := by rw [ht]; exact IntWalk.wrap64_in _ (by omega)
        have hd' : n ≤ 12725829 := by omega
        by_cases hg : 1099511627776 < t
        · have HF := Lib.hid (HBG.out hnb (Or.inr (Or.inr (by rw [hx1, ht]; exact hg))))
          clear HBB HBG HBO hnb hx1 ht
          go_wp2_with fail
          exact HF.out
        · have HF := Lib.hid (HBO.out hnb (by unfold rbG; rw [hx1, ht]; simp; omega) t (by rw [hx1, ht]))
          clear HBB HBG HBO hnb hx1 ht
          go_wp2_with fail
          exact HF.out
    · cases m with
      | true =>
        have HF := Lib.hid (HBB.out (Or.inr (Or.inl ⟨rfl, rfl⟩)))
        have g0 : (s[0]'HS0.out).toNat = 45 := (HM.out HS0.out).2 rfl
        have hs00 := HS0.out
        clear HBB HBG HBO
        go_wp2_with fail
        exact HF.out
      | false =>
        have hnb : ¬ rbB n 10 false := by unfold rbB; simp
        have HF := Lib.hid (HBG.out hnb (Or.inl rfl))
        have hs00 := HS0.out
        have g0 : ¬ (s[0]'hs00).toNat = 45 := fun h => by have := (HM.out hs00).1 h; cases this
        have g0I : (((s[0]'hs00).toNat : Int) == 45) = false := by rw [beq_eq_false_iff_ne]; omega
        clear HBB HBG HBO hnb
        go_wp2_with fail
        exact HF.out
    · have HF := Lib.hid (HBB.out (Or.inl rfl))
      clear HBB HBG HBO
      go_wp2_with fail
      exact HF.out
  · have hcmp : (tt.toList == d.toList) = false := by rw [HTT.out, HDD.out, bL_list, bL_list]; exact ne_of (fun e => hDD e.symm)
    have HF := Lib.hid (HBAD2.out w2' EE.out (fun q => hDD q.2.2))
    go_wp2_with fail
    exact HF.out
end Go.Proofs.YtlckgdgmanmbhaaDoor
