/- Which car is there first: the program's, and the document's. -/
import Derived.Test.YtbjcigkakeffmaaDoorRows
import Derived.Test.YtbjcigkakeffmaaDoorKitM
import Derived.Test.YtbjcigkakeffmaaDoorCmp
import Derived.Test.YtbjcigkakeffmaaDoorPlaceA
import Derived.Test.YtbjcigkakeffmaaDoorVetA
import Derived.Test.YtbjcigkakeffmaaDoorVetB
import Derived.Test.YtbjcigkakeffmaaDoorNearMath
import Derived.Test.YtbjcigkakeffmaaDoorNearA
import Derived.Test.YtbjcigkakeffmaaDoorNearB
import Derived.Test.YtbjcigkakeffmaaDoorNearC
import Derived.Test.YtbjcigkakeffmaaDoorNearG
import Derived.Test.YtbjcigkakeffmaaDoorNearI
import Derived.Test.YtbjcigkakeffmaaDoorBitM
import Derived.Test.YtbjcigkakeffmaaDoorBitsL
import Derived.Test.YtbjcigkakeffmaaDoorBitsN
import Derived.Test.YtbjcigkakeffmaaDoorBitsT
import Derived.Test.YtbjcigkakeffmaaDoorBitsU
import Derived.Test.YtbjcigkakeffmaaDoorBitsV
import Derived.Test.YtbjcigkakeffmaaDoorBitsX
import Derived.Test.YtbjcigkakeffmaaDoorWantA
import Derived.Test.YtbjcigkakeffmaaDoorWantB
import Derived.Test.YtbjcigkakeffmaaDoorWantC
import Derived.Test.YtbjcigkakeffmaaDoorEtaA
import Derived.Test.YtbjcigkakeffmaaDoorEtaB
import Derived.Test.YtbjcigkakeffmaaDoorEtaMath
import Derived.Test.YtbjcigkakeffmaaDoorEtaC
import Derived.Test.YtbjcigkakeffmaaDoorEtaD
import Derived.Test.YtbjcigkakeffmaaDoorEtaE
import Derived.Test.YtbjcigkakeffmaaDoorEtaF
import Derived.WalkKit
import Derived.IntWalk
import Derived.Lib.Hide
import Derived.WalkSpells
import Derived.WalkLawsBesides
import Derived.Laws.CopyOwn
import Derived.Laws.MakeOwn
import Derived.Laws.OwnMore
import Derived.OwnWalk
import Derived.Deep.QuietTactic
import Derived.BigQuiet
import Derived.Deep.RegionHeld3
import Derived.Deep.LoopGhost
import Derived.BigRegion
import Derived.Deep.AppendLies
import Derived.Maps.AppendAt
import Derived.Below
namespace Go.Proofs.YtbjcigkakeffmaaDoor
open Go.RowKit
set_option linter.unusedSimpArgs false
set_option linter.unusedVariables false
/-- the stops of a car: none where there are fewer sets than cars -/
def stF (z : Nat → Nat → Int) (K i : Nat) : Nat → Bool := if i < K then setAt z i else fun _ => false
def efF (s : Nat → Int) (v : Nat → Nat → Value) (z : Nat → Nat → Int) (K : Nat) (fl dir : Int) (i : Nat) : Int :=
  eofV (doorV (s 7) (s 5) (s 6) (intOf (v i 2)) (intOf (v i 3))) (intOf (v i 0)) (intOf (v i 1)) (s 1) (intOf (v i 0) / s 1) (intOf (v i 0) % s 1) (s 4 + s 7 + s 5 + s 6) fl dir (stF z K i)
/-- the numbers of a scenario that may be -/
structure InN (s : Nat → Int) : Prop where
  g0 : 1 ≤ s 1
  g1 : s 1 ≤ 16
  f0 : 2 ≤ s 0
  f1 : s 0 ≤ 128
  h4 : 1 ≤ s 4 ∧ s 4 ≤ 64
  h5 : 1 ≤ s 5 ∧ s 5 ≤ 64
  h6 : 1 ≤ s 6 ∧ s 6 ≤ 64
  h7 : 1 ≤ s 7 ∧ s 7 ≤ 64
theorem trn_bd (F : Nat → Bool) (d g : Int) (h0 : 0 ≤ g) (h1 : g ≤ 16) : 0 ≤ trn (itL F 128) d * g ∧ trn (itL F 128) d * g ≤ 2032 := by
  have hz : ∀ i, 0 ≤ zat (itL F 128) i ∧ zat (itL F 128) i ≤ 127 := fun i => by
    by_cases h : i < (itL F 128).length
    · have := itL_bd F 128 i h; omega
    · have : zat (itL F 128) i = 0 := by unfold zat; rw [List.getD_eq_getElem?_getD, List.getElem?_eq_none (by omega)]; rfl
      omega
  have ht : 0 ≤ trn (itL F 128) d ∧ trn (itL F 128) d ≤ 127 := by unfold trn; split <;> exact hz _
  exact ⟨Int.mul_nonneg ht.1 h0, Int.mul_le_mul ht.2 h1 h0 (by omega)⟩
theorem eof_bd {D p d g q r st fl dir : Int} {F : Nat → Bool} (D0 : 0 ≤ D) (D1 : D ≤ 256) (p0 : 0 ≤ p) (p1 : p ≤ 2048) (g0 : 1 ≤ g) (g1 : g ≤ 16) (m0 : 0 ≤ fl * g) (m1 : fl * g ≤ 2048) (s0 : 4 ≤ st) (s1 : st ≤ 256) : 0 ≤ eofV D p d g q r st fl dir F ∧ eofV D p d g q r st fl dir F ≤ 1048576 := by
  have nl : btP (nxF q r (-(cmpI (fl * g) p))) fl (itL F 128) ≤ 128 := Nat.le_trans (btP_le _ _ _) (itL_len F 128)
  have cl : (itL (byF F (nxF q r (-d)) d) 128).length ≤ 128 := itL_len _ 128
  have t := trn_bd (byF F (nxF q r (-d)) d) d g (by omega) g1
  have f0 := far_bd (p := p) (m := fl * g) p0 (by omega) m0 (by omega)
  have B1 : ∀ a b : Int, 0 ≤ a → a ≤ 2048 → 0 ≤ b → b ≤ 2048 → 0 ≤ farV a b ∧ farV a b ≤ 2048 := fun a b _ _ _ _ => by unfold farV; split <;> omega
  have b1 := B1 p (fl * g) p0 p1 m0 m1
  have b2 := B1 p _ p0 p1 t.1 (by omega)
  have b3 := B1 _ (fl * g) t.1 (by omega) m0 m1
  unfold eofV
  split
  · have h0 := Int.mul_nonneg (show 0 ≤ st by omega) (Int.natCast_nonneg (btP (nxF q r (-(cmpI (fl * g) p))) fl (itL F 128)))
    have h1 : st * ((btP (nxF q r (-(cmpI (fl * g) p))) fl (itL F 128) : Nat) : Int) ≤ 256 * 128 := Int.mul_le_mul s1 (by omega) (by omega) (by omega)
    omega
  · have h2 : ((itL (byF F (nxF q r (-d)) d) 128).length + if cmpI (fl * g) p = -d then btP (nxF q r (-(cmpI (fl * g) p))) fl (itL F 128) else 0) ≤ 256 := by split <;> omega
    obtain ⟨x, hx⟩ : ∃ x, ((itL (byF F (nxF q r (-d)) d) 128).length + if cmpI (fl * g) p = -d then btP (nxF q r (-(cmpI (fl * g) p))) fl (itL F 128) else 0) = x := ⟨_, rfl⟩
    rw [hx] at h2 ⊢
    have h0 := Int.mul_nonneg (show 0 ≤ st by omega) (Int.natCast_nonneg x)
    have h1 : st * (x : Int) ≤ 256 * 256 := Int.mul_le_mul s1 (by omega) (by omega) (by omega)
    omega
theorem top_bd {s : Nat → Int} (hN : InN s) : (s 0 - 1) * s 1 ≤ 127 * 16 := Int.mul_le_mul (by have := hN.f1; omega) hN.g1 (by have := hN.g0; omega) (by omega)
theorem qr_eq {p g : Int} (hg : 1 ≤ g) : 0 ≤ p % g ∧ p % g < g ∧ p = p / g * g + p % g := ⟨Int.emod_nonneg _ (by omega), Int.emod_lt_of_pos _ (by omega), by rw [Int.mul_comm]; exact (Int.mul_ediv_add_emod p g).symm⟩
theorem ef_bd {s : Nat → Int} {v : Nat → Nat → Value} {z : Nat → Nat → Int} {k K : Nat} {fl dir : Int} (hN : InN s) (hI : InC v k ((s 0 - 1) * s 1)) (m0 : 0 ≤ fl * s 1) (m1 : fl * s 1 ≤ 2048) {i : Nat} (hi : i < k) : 0 ≤ efF s v z K fl dir i ∧ efF s v z K fl dir i ≤ 1048576 := by
  have t := top_bd hN
  obtain ⟨a0, a1, _, _, _, _, l0, l1, _⟩ := hI i hi
  have DB := door_bd (mo := intOf (v i 2)) hN.h5 hN.h6 hN.h7 l0 l1
  obtain ⟨h40, h41⟩ := hN.h4; obtain ⟨h50, h51⟩ := hN.h5; obtain ⟨h60, h61⟩ := hN.h6; obtain ⟨h70, h71⟩ := hN.h7
  exact eof_bd DB.1 DB.2 a0 (by omega) hN.g0 hN.g1 m0 m1 (by omega) (by omega)
theorem ef_prog (s : Nat → Int) (A : Option Addr) (n c : Nat) (v : Nat → Nat → Value) (z : Nat → Nat → Int) (k K : Nat) (fl dir : Int) (i : Nat) (p d mo le : Int) (bw : Bool) (R : Value) (w : World) (hT : TzT w) (hN : InN s) (hI : InC v k ((s 0 - 1) * s 1)) (m0 : 0 ≤ fl * s 1) (m1 : fl * s 1 ≤ 2048) (hi : i < k) (hp : intOf (v i 0) = p) (hd : intOf (v i 1) = d) (hm : intOf (v i 2) = mo) (hl : intOf (v i 3) = le) :
    Calls Tryd.prog 9 #[scnV s A n c, carV p d mo le bw R, setV (stF z K i), .int .i64 fl, .int .i64 dir] w fun e w' => e = .returned (.int .i64 (efF s v z K fl dir i)) ∧ Below w.heap.size w w' := by
  have t := top_bd hN
  obtain ⟨a0, a1, b0, b1, o0, o1, l0, l1, _⟩ := hI i hi
  obtain ⟨r0, r1, e⟩ := qr_eq (p := intOf (v i 0)) hN.g0
  unfold efF
  subst hp hd hm hl
  exact eof_any s A n c _ _ _ _ bw R _ fl dir _ _ w hT hN.g0 hN.g1 a0 (by omega) r0 r1 e m0 m1 hN.h4 hN.h5 hN.h6 hN.h7 b0 b1 o0 o1 l0 l1
theorem ef_ref (s : Nat → Int) (A : Option Addr) (n c : Nat) (v : Nat → Nat → Value) (z : Nat → Nat → Int) (k K : Nat) (fl dir : Int) (i : Nat) (p d mo le : Int) (bw : Bool) (R : Value) (w : World) (hN : InN s) (hI : InC v k ((s 0 - 1) * s 1)) (m0 : 0 ≤ fl * s 1) (m1 : fl * s 1 ≤ 2048) (hi : i < k) (hp : intOf (v i 0) = p) (hd : intOf (v i 1) = d) (hm : intOf (v i 2) = mo) (hl : intOf (v i 3) = le) :
    Calls Tryd.prog 10 #[scnV s A n c, carV p d mo le bw R, setV (stF z K i), .int .i64 fl, .int .i64 dir] w fun e w' => e = .returned (.int .i64 (efF s v z K fl dir i)) ∧ Below w.heap.size w w' := by
  have t := top_bd hN
  obtain ⟨a0, a1, b0, b1, o0, o1, l0, l1, _⟩ := hI i hi
  obtain ⟨r0, r1, e⟩ := qr_eq (p := intOf (v i 0)) hN.g0
  unfold efF
  subst hp hd hm hl
  exact rof34_any s A n c _ _ _ _ bw R _ fl dir _ _ w hN.g0 hN.g1 a0 (by omega) r0 r1 e m0 m1 hN.h4 hN.h5 hN.h6 hN.h7 b0 b1 o0 o1 l0 l1
def FRow (f : Nat → Int) (k : Nat) (V : Value) (w wr : World) : Prop := wr.ownsRow w.heap.size 3 1 V k ((rowL f k).map (Value.int .i64)) ∧ Below w.heap.size w wr
theorem frow_push {f : Nat → Int} {k : Nat} {w wr : World} {V : Value} {x : Int} (hx : f k = x) (h : wr.ownsRow w.heap.size 3 1 V (k + 1) ((rowL f k).map (Value.int .i64) ++ [.int .i64 x])) (hb : Below w.heap.size w wr) : FRow f (k + 1) V w wr := by
  refine ⟨?_, hb⟩
  rw [rowL_succ, List.map_append]
  rw [← hx] at h
  exact h
theorem frow_rd {f : Nat → Int} {k : Nat} {w wr : World} {V : Value} (h : FRow f k V w wr) (hI : ∀ i, i < k → 0 ≤ f i ∧ f i ≤ 16777216) : ∃ A c, V = .slice A k c ∧ RdI wr .i64 A (rowL f k) := by
  have hlen := rowL_len f k
  obtain ⟨A, c, e, hR⟩ := ownR_rd (ownR_len h.1 hlen) (fun i hi => by
    rw [hlen] at hi
    rw [rowL_at _ hi]
    have := hI i hi
    exact WalkArith.wf_i64 (by omega))
  rw [hlen] at e
  exact ⟨A, c, e, hR⟩
theorem st_in {z : Nat → Nat → Int} {K i : Nat} (h : i < K) : stF z K i = setAt z i := by unfold stF; rw [if_pos h]
theorem st_out {z : Nat → Nat → Int} {K i : Nat} (h : ¬ i < K) : setV (stF z K i) = .agg #[.int .u64 0, .int .u64 0] := by
  unfold stF; rw [if_neg h]; unfold setV; rw [word_none.1, word_none.2]; rfl
theorem keepn {w w1 : World} (hb : Below w.heap.size w w1) {b o : Nat} {v : Value} (h : w.cell? ⟨b, o, none⟩ = some v) : w1.cell? ⟨b, o, none⟩ = some v :=
  (hb.cell (p := ⟨b, o, none⟩) (lt_of_cell h)).trans h
set_option maxRecDepth 100000 in
set_option maxHeartbeats 8000000 in
theorem ebest_any (s : Nat → Int) (A C ZA : Option Addr) (n c k d K zd : Nat) (v : Nat → Nat → Value) (z : Nat → Nat → Int) (fl dir : Int) (w : World) (hT : TzT w) (hv : RdV w 6 shCar C k v) (hz : RdK w .u64 2 ZA K z) (hk : k ≤ 16) (hN : InN s) (hI : InC v k ((s 0 - 1) * s 1)) (m0 : 0 ≤ fl * s 1) (m1 : fl * s 1 ≤ 2048) :
    Calls Tryd.prog 11 #[scnV s A n c, .slice C k d, .slice ZA K zd, .int .i64 fl, .int .i64 dir] w fun e w' => e = .returned (.int .i64 (lstV (rowL (efF s v z K fl dir) k) k)) ∧ Below w.heap.size w w' := by
  obtain ⟨i0, hi, hz0, hz1, hz2⟩ := info_parts mkInfo
  have KC := Lib.hid (fun i p q mo le bw R w hT hi hp hd hm hl => ef_prog s A n c v z k K fl dir i p q mo le bw R w hT hN hI m0 m1 hi hp hd hm hl)
  have HBD := Lib.hid (fun i (hi : i < k) => ef_bd (z := z) (K := K) (dir := dir) hN hI m0 m1 hi)
  obtain ⟨f, hf⟩ : ∃ f, efF s v z K fl dir = f := ⟨_, rfl⟩
  rw [hf] at HBD ⊢
  simp only [hf] at KC
  obtain ⟨W, hW⟩ : ∃ W, w.alloc (.cells (scnC s A n c) 25) = W := ⟨_, rfl⟩
  have HB0 := Lib.hid (show Below w.heap.size w W by rw [← hW]; exact (Below.refl w.heap.size w).alloc (Nat.le_refl _) _)
  have BX := Lib.hid (show Box W w.heap.size (scnC s A n c) by rw [← hW]; exact box_new w (scnC s A n c) 25)
  have HV := Lib.hid (hv.kept HB0.out)
  have HK := Lib.hid (hz.kept HB0.out)
  have HT := Lib.hid (hT.kept HB0.out)
  have HW := Lib.hid (show w.alloc (.cells #[.int .i64 (s 0), .int .i64 (s 1), .int .i64 (s 2), .int .i64 (s 3), .int .i64 (s 4), .int .i64 (s 5), .int .i64 (s 6), .int .i64 (s 7), .slice A n c, .int .i64 (s 9), .int .i64 (s 10), .int .i64 (s 11), .int .i64 (s 12)] 25) = W from hW)
  unfold scnV at KC ⊢
  clear hv hI hz hW hf hN m0 m1 hT
  go_enter Tryd.func11, Tryd.ntmps11
  go_wp2_with fail
  rw [HW.out]
  go_loopw [11, 17] (fun V i wr => ∃ j : Nat, j ≤ k ∧ i = .int .i64 j ∧ FRow f j V W wr) (fun _ i _ => k - (intOf i).toNat)
  case atStart => exact ⟨0, by omega, rfl, ⟨World.ownsRow_nil _ _ _ _, Below.refl _ _⟩⟩
  case round =>
    obtain ⟨j, hj, rfl, hown, hb⟩ := hrel
    have HB := Lib.hid hb
    have hsz := hb.size
    have hsW : W.heap.size = w.heap.size + 1 := by rw [← HW.out]; simp
    by_cases h : j < k
    · have RV := HV.out.kept hb
      obtain ⟨y, bw, R, rk, rc, e0, e1, e2, e3, e4, e5, rm, _, _⟩ := car_at RV h
      obtain ⟨b, off, rfl, hltW, _⟩ := rdV_row HV.out (by omega) (by omega)
      obtain ⟨b', off', e', hlt, hcl⟩ := rdV_row RV (by omega) (by omega)
      cases e'
      have c0 : wr.cell? ⟨b, off + j * 6, none⟩ = some (.int .i64 (y 0)) := (hcl j 0 h (by omega)).trans (by rw [e0])
      have c1 := (hcl j 1 h (by omega)).trans (congrArg some e1)
      have c2 := (hcl j 2 h (by omega)).trans (congrArg some e2)
      have c3 := (hcl j 3 h (by omega)).trans (congrArg some e3)
      have c4 := (hcl j 4 h (by omega)).trans (congrArg some e4)
      have c5 := (hcl j 5 h (by omega)).trans (congrArg some e5)
      have X2 := BX.out.next hb
      have KJ := fun w hT => KC.out j (y 0) (y 1) (y 2) (y 3) bw (.slice R rk rc) w hT h (by rw [e0]; rfl) (by rw [e1]; rfl) (by rw [e2]; rfl) (by rw [e3]; rfl)
      obtain ⟨x, hx⟩ : ∃ x, f j = x := ⟨_, rfl⟩
      have X := Lib.hid hx
      simp only [hx] at KJ
      obtain ⟨p, hp⟩ : ∃ p, y 0 = p := ⟨_, rfl⟩
      obtain ⟨q, hq⟩ : ∃ q, y 1 = q := ⟨_, rfl⟩
      obtain ⟨mo, hmo⟩ : ∃ p, y 2 = p := ⟨_, rfl⟩
      obtain ⟨le, hle⟩ : ∃ p, y 3 = p := ⟨_, rfl⟩
      simp only [hp, hq, hmo, hle] at KJ c0 c1 c2 c3
      unfold carV at KJ
      have f0 : wr.cell? ⟨w.heap.size, 0, none⟩ = some (.int .i64 (s 0)) := X2 0 _ rfl
      have f1 : wr.cell? ⟨w.heap.size, 1, none⟩ = some (.int .i64 (s 1)) := X2 1 _ rfl
      have f2 : wr.cell? ⟨w.heap.size, 2, none⟩ = some (.int .i64 (s 2)) := X2 2 _ rfl
      have f3 : wr.cell? ⟨w.heap.size, 3, none⟩ = some (.int .i64 (s 3)) := X2 3 _ rfl
      have f4 : wr.cell? ⟨w.heap.size, 4, none⟩ = some (.int .i64 (s 4)) := X2 4 _ rfl
      have f5 : wr.cell? ⟨w.heap.size, 5, none⟩ = some (.int .i64 (s 5)) := X2 5 _ rfl
      have f6 : wr.cell? ⟨w.heap.size, 6, none⟩ = some (.int .i64 (s 6)) := X2 6 _ rfl
      have f7 : wr.cell? ⟨w.heap.size, 7, none⟩ = some (.int .i64 (s 7)) := X2 7 _ rfl
      have f8 : wr.cell? ⟨w.heap.size, 8, none⟩ = some (.slice A n c) := X2 8 _ rfl
      have f9 : wr.cell? ⟨w.heap.size, 9, none⟩ = some (.int .i64 (s 9)) := X2 9 _ rfl
      have f10 : wr.cell? ⟨w.heap.size, 10, none⟩ = some (.int .i64 (s 10)) := X2 10 _ rfl
      have f11 : wr.cell? ⟨w.heap.size, 11, none⟩ = some (.int .i64 (s 11)) := X2 11 _ rfl
      have f12 : wr.cell? ⟨w.heap.size, 12, none⟩ = some (.int .i64 (s 12)) := X2 12 _ rfl
      have hgs : w.heap.size < wr.heap.size := lt_of_cell f0
      obtain ⟨vA, vc, hvv⟩ := mkSlice hown
      subst hvv
      have j0 : (0 : Int) ≤ (j : Int) := Int.natCast_nonneg _
      have j1 : (j : Int) < (k : Int) := by omega
      have RKj := HK.out.kept hb
      clear RV hcl e0 e1 e2 e3 e4 e5 X2 hp hq hmo hle hx
      by_cases hK : j < K
      · rw [st_in hK] at KJ
        obtain ⟨bb, oo, rfl, hltS, hcs⟩ := rdK_row RKj (by omega) (by omega)
        obtain ⟨x0, x1, ex0, ex1, eX⟩ := set_words RKj (i := j) hK
        have g0 : wr.cell? ⟨bb, oo + j * 2, none⟩ = some (.int .u64 x0) := (hcs j 0 hK (by omega)).trans (by rw [ex0])
        have g1 : wr.cell? ⟨bb, oo + j * 2 + 1, none⟩ = some (.int .u64 x1) := (hcs j 1 hK (by omega)).trans (by rw [ex1])
        rw [← eX] at KJ
        have HKJ := Lib.hid KJ
        have jK : (j : Int) < (K : Int) := by omega
        have decK : decide (j < K) = true := by simpa using hK
        clear KJ hcs ex0 ex1 eX RKj hb
        go_wp2_with fail
        have hW3 := ((HB.out.alloc HB.out.size (.cells #[.int .i64 p, .int .i64 q, .int .i64 mo, .int .i64 le, .bool bw, .slice R rk rc] 36)).alloc (by have := HB.out.size; simp; omega) (.cells #[.int .u64 x0, .int .u64 x1] 40))
        refine (HKJ.out _ (HT.out.kept hW3)).mono ?_
        rintro e w3 ⟨rfl, hb3⟩
        have hown3 := mkOwn_below ((hown.alloc (.cells #[.int .i64 p, .int .i64 q, .int .i64 mo, .int .i64 le, .bool bw, .slice R rk rc] 36)).alloc (.cells #[.int .u64 x0, .int .u64 x1] 40)) hb3
        have hb4 : Below W.heap.size W w3 := hW3.trans (hb3.mono hW3.size)
        have hz3 := hb4.size
        clear hown hW3
        go_wp2_with (at_builtin; refine wpList_append_own _ rfl _ _ 48 rfl W.heap.size 3 i0 (.int .i64 0) 1 8 Tryd.underlying48 hi hz0 hz1 hz2 rfl (by decide) _ _ _ rfl (hown3.alloc _) ⟨_, 0, none⟩ 1 1 [.int .i64 _] rfl rfl one_newR (by intro u hu; simp at hu; subst hu; rfl) (by unfold maxLen; omega) (by omega) (by simp; omega) ?_; intro v' w4 hown' hgrow _)
        have hb5 : Below W.heap.size W w4 := by
          refine (hb4.alloc hb4.size _).grown hgrow (by simp; omega) (fun g hg => ?_)
          first | exact ownR_ge hown3 hg | exact ownR_ge hown3 hg.symm
        have HR := Lib.hid (frow_push X.out hown' hb5)
        clear hown' hgrow
        go_wp2_with fail
        go_roundw
        case rel => exact ⟨j + 1, by omega, by go_num, HR.out⟩
        case measure => simp [intOf]; omega
      · rw [st_out hK] at KJ
        have HKJ := Lib.hid KJ
        have jK : (K : Int) ≤ (j : Int) := by omega
        have decK : decide (j < K) = false := by simpa using hK
        clear KJ RKj hb
        go_wp2_with fail
        have hW3 := ((HB.out.alloc HB.out.size (.cells #[.int .i64 p, .int .i64 q, .int .i64 mo, .int .i64 le, .bool bw, .slice R rk rc] 36)).alloc (by have := HB.out.size; simp; omega) (.cells #[.int .u64 0, .int .u64 0] 40))
        refine (HKJ.out _ (HT.out.kept hW3)).mono ?_
        rintro e w3 ⟨rfl, hb3⟩
        have hown3 := mkOwn_below ((hown.alloc (.cells #[.int .i64 p, .int .i64 q, .int .i64 mo, .int .i64 le, .bool bw, .slice R rk rc] 36)).alloc (.cells #[.int .u64 0, .int .u64 0] 40)) hb3
        have hb4 : Below W.heap.size W w3 := hW3.trans (hb3.mono hW3.size)
        have hz3 := hb4.size
        clear hown hW3
        go_wp2_with (at_builtin; refine wpList_append_own _ rfl _ _ 48 rfl W.heap.size 3 i0 (.int .i64 0) 1 8 Tryd.underlying48 hi hz0 hz1 hz2 rfl (by decide) _ _ _ rfl (hown3.alloc _) ⟨_, 0, none⟩ 1 1 [.int .i64 _] rfl rfl one_newR (by intro u hu; simp at hu; subst hu; rfl) (by unfold maxLen; omega) (by omega) (by simp; omega) ?_; intro v' w4 hown' hgrow _)
        have hb5 : Below W.heap.size W w4 := by
          refine (hb4.alloc hb4.size _).grown hgrow (by simp; omega) (fun g hg => ?_)
          first | exact ownR_ge hown3 hg | exact ownR_ge hown3 hg.symm
        have HR := Lib.hid (frow_push X.out hown' hb5)
        clear hown' hgrow
        go_wp2_with fail
        go_roundw
        case rel => exact ⟨j + 1, by omega, by go_num, HR.out⟩
        case measure => simp [intOf]; omega
    · obtain rfl : j = k := by omega
      have h' : ¬ ((j : Int) < j) := by omega
      obtain ⟨vA, vc, e, hR⟩ := frow_rd ⟨hown, hb⟩ (fun i hi => by have := HBD.out i hi; omega)
      subst e
      have hlen := rowL_len f j
      have KL := least_any vA vc (rowL f j) wr hR (by rw [hlen]; omega)
      rw [hlen] at KL
      have HL := Lib.hid KL
      have HF := Lib.hid (HB0.out.trans (hb.mono HB0.out.size))
      clear hown hb hR hlen KL
      go_wp2_with fail
      refine HL.out.mono ?_
      rintro e w3 ⟨rfl, rfl⟩
      go_wp2_with fail
      go_ret
      exact ⟨rfl, HF.out⟩
set_option maxRecDepth 100000 in
set_option maxHeartbeats 8000000 in
theorem rbest34_any (s : Nat → Int) (A C ZA : Option Addr) (n c k d K zd : Nat) (v : Nat → Nat → Value) (z : Nat → Nat → Int) (fl dir : Int) (w : World) (hv : RdV w 6 shCar C k v) (hz : RdK w .u64 2 ZA K z) (hk : k ≤ 16) (hN : InN s) (hI : InC v k ((s 0 - 1) * s 1)) (m0 : 0 ≤ fl * s 1) (m1 : fl * s 1 ≤ 2048) :
    Calls Tryd.prog 12 #[scnV s A n c, .slice C k d, .slice ZA K zd, .int .i64 fl, .int .i64 dir] w fun e w' => e = .returned (.int .i64 (lstV (rowL (efF s v z K fl dir) k) k)) ∧ Below w.heap.size w w' := by
  obtain ⟨i0, hi, hz0, hz1, hz2⟩ := info_parts mkInfo
  have KC := Lib.hid (fun i p q mo le bw R w hi hp hd hm hl => ef_ref s A n c v z k K fl dir i p q mo le bw R w hN hI m0 m1 hi hp hd hm hl)
  have HBD := Lib.hid (fun i (hi : i < k) => ef_bd (z := z) (K := K) (dir := dir) hN hI m0 m1 hi)
  obtain ⟨f, hf⟩ : ∃ f, efF s v z K fl dir = f := ⟨_, rfl⟩
  rw [hf] at HBD ⊢
  simp only [hf] at KC
  obtain ⟨W, hW⟩ : ∃ W, w.alloc (.cells (scnC s A n c) 25) = W := ⟨_, rfl⟩
  have HB0 := Lib.hid (show Below w.heap.size w W by rw [← hW]; exact (Below.refl w.heap.size w).alloc (Nat.le_refl _) _)
  have BX := Lib.hid (show Box W w.heap.size (scnC s A n c) by rw [← hW]; exact box_new w (scnC s A n c) 25)
  have HV := Lib.hid (hv.kept HB0.out)
  have HK := Lib.hid (hz.kept HB0.out)
  
  have HW := Lib.hid (show w.alloc (.cells #[.int .i64 (s 0), .int .i64 (s 1), .int .i64 (s 2), .int .i64 (s 3), .int .i64 (s 4), .int .i64 (s 5), .int .i64 (s 6), .int .i64 (s 7), .slice A n c, .int .i64 (s 9), .int .i64 (s 10), .int .i64 (s 11), .int .i64 (s 12)] 25) = W from hW)
  unfold scnV at KC ⊢
  clear hv hI hz hW hf hN m0 m1
  go_enter Tryd.func12, Tryd.ntmps12
  go_wp2_with fail
  rw [HW.out]
  go_loopw [11, 12] (fun V i wr => ∃ j : Nat, j ≤ k ∧ i = .int .i64 j ∧ FRow f j V W wr) (fun _ i _ => k - (intOf i).toNat)
  case atStart => exact ⟨0, by omega, rfl, ⟨World.ownsRow_nil _ _ _ _, Below.refl _ _⟩⟩
  case round =>
    obtain ⟨j, hj, rfl, hown, hb⟩ := hrel
    have HB := Lib.hid hb
    have hsz := hb.size
    have hsW : W.heap.size = w.heap.size + 1 := by rw [← HW.out]; simp
    by_cases h : j < k
    · have RV := HV.out.kept hb
      obtain ⟨y, bw, R, rk, rc, e0, e1, e2, e3, e4, e5, rm, _, _⟩ := car_at RV h
      obtain ⟨b, off, rfl, hltW, _⟩ := rdV_row HV.out (by omega) (by omega)
      obtain ⟨b', off', e', hlt, hcl⟩ := rdV_row RV (by omega) (by omega)
      cases e'
      have c0 : wr.cell? ⟨b, off + j * 6, none⟩ = some (.int .i64 (y 0)) := (hcl j 0 h (by omega)).trans (by rw [e0])
      have c1 := (hcl j 1 h (by omega)).trans (congrArg some e1)
      have c2 := (hcl j 2 h (by omega)).trans (congrArg some e2)
      have c3 := (hcl j 3 h (by omega)).trans (congrArg some e3)
      have c4 := (hcl j 4 h (by omega)).trans (congrArg some e4)
      have c5 := (hcl j 5 h (by omega)).trans (congrArg some e5)
      have X2 := BX.out.next hb
      have KJ := fun w => KC.out j (y 0) (y 1) (y 2) (y 3) bw (.slice R rk rc) w h (by rw [e0]; rfl) (by rw [e1]; rfl) (by rw [e2]; rfl) (by rw [e3]; rfl)
      obtain ⟨x, hx⟩ : ∃ x, f j = x := ⟨_, rfl⟩
      have X := Lib.hid hx
      simp only [hx] at KJ
      obtain ⟨p, hp⟩ : ∃ p, y 0 = p := ⟨_, rfl⟩
      obtain ⟨q, hq⟩ : ∃ q, y 1 = q := ⟨_, rfl⟩
      obtain ⟨mo, hmo⟩ : ∃ p, y 2 = p := ⟨_, rfl⟩
      obtain ⟨le, hle⟩ : ∃ p, y 3 = p := ⟨_, rfl⟩
      simp only [hp, hq, hmo, hle] at KJ c0 c1 c2 c3
      unfold carV at KJ
      have f0 : wr.cell? ⟨w.heap.size, 0, none⟩ = some (.int .i64 (s 0)) := X2 0 _ rfl
      have f1 : wr.cell? ⟨w.heap.size, 1, none⟩ = some (.int .i64 (s 1)) := X2 1 _ rfl
      have f2 : wr.cell? ⟨w.heap.size, 2, none⟩ = some (.int .i64 (s 2)) := X2 2 _ rfl
      have f3 : wr.cell? ⟨w.heap.size, 3, none⟩ = some (.int .i64 (s 3)) := X2 3 _ rfl
      have f4 : wr.cell? ⟨w.heap.size, 4, none⟩ = some (.int .i64 (s 4)) := X2 4 _ rfl
      have f5 : wr.cell? ⟨w.heap.size, 5, none⟩ = some (.int .i64 (s 5)) := X2 5 _ rfl
      have f6 : wr.cell? ⟨w.heap.size, 6, none⟩ = some (.int .i64 (s 6)) := X2 6 _ rfl
      have f7 : wr.cell? ⟨w.heap.size, 7, none⟩ = some (.int .i64 (s 7)) := X2 7 _ rfl
      have f8 : wr.cell? ⟨w.heap.size, 8, none⟩ = some (.slice A n c) := X2 8 _ rfl
      have f9 : wr.cell? ⟨w.heap.size, 9, none⟩ = some (.int .i64 (s 9)) := X2 9 _ rfl
      have f10 : wr.cell? ⟨w.heap.size, 10, none⟩ = some (.int .i64 (s 10)) := X2 10 _ rfl
      have f11 : wr.cell? ⟨w.heap.size, 11, none⟩ = some (.int .i64 (s 11)) := X2 11 _ rfl
      have f12 : wr.cell? ⟨w.heap.size, 12, none⟩ = some (.int .i64 (s 12)) := X2 12 _ rfl
      have hgs : w.heap.size < wr.heap.size := lt_of_cell f0
      obtain ⟨vA, vc, hvv⟩ := mkSlice hown
      subst hvv
      have j0 : (0 : Int) ≤ (j : Int) := Int.natCast_nonneg _
      have j1 : (j : Int) < (k : Int) := by omega
      have RKj := HK.out.kept hb
      clear RV hcl e0 e1 e2 e3 e4 e5 X2 hp hq hmo hle hx
      by_cases hK : j < K
      · rw [st_in hK] at KJ
        obtain ⟨bb, oo, rfl, hltS, hcs⟩ := rdK_row RKj (by omega) (by omega)
        obtain ⟨x0, x1, ex0, ex1, eX⟩ := set_words RKj (i := j) hK
        have g0 : wr.cell? ⟨bb, oo + j * 2, none⟩ = some (.int .u64 x0) := (hcs j 0 hK (by omega)).trans (by rw [ex0])
        have g1 : wr.cell? ⟨bb, oo + j * 2 + 1, none⟩ = some (.int .u64 x1) := (hcs j 1 hK (by omega)).trans (by rw [ex1])
        rw [← eX] at KJ
        have HKJ := Lib.hid KJ
        have jK : (j : Int) < (K : Int) := by omega
        have decK : decide (j < K) = true := by simpa using hK
        clear KJ hcs ex0 ex1 eX RKj hb
        go_wp2_with fail
        have hown2 := hown.alloc (.cells #[.int .u64 x0, .int .u64 x1] 40)
        have hB2 := HB.out.alloc HB.out.size (.cells #[.int .u64 x0, .int .u64 x1] 40)
        have ags : (Value.slice vA j vc).ownBlock ≠ some wr.heap.size := fun e => by have := hown.lt _ e; omega
        have agb : (Value.slice vA j vc).ownBlock ≠ some b := fun e => by have := ownR_ge hown e; omega
        have agw : (Value.slice vA j vc).ownBlock ≠ some w.heap.size := fun e => by have := ownR_ge hown e; omega
        have q0 : (wr.alloc (.cells #[.int .u64 x0, .int .u64 x1] 40)).cell? ⟨wr.heap.size, 0, none⟩ = some (.int .u64 x0) := (Blk.new wr #[.int .u64 x0, .int .u64 x1] 40).cell 0
        have q1 : (wr.alloc (.cells #[.int .u64 x0, .int .u64 x1] 40)).cell? ⟨wr.heap.size, 1, none⟩ = some (.int .u64 x1) := (Blk.new wr #[.int .u64 x0, .int .u64 x1] 40).cell 1
        have bk : Below wr.heap.size wr (wr.alloc (.cells #[.int .u64 x0, .int .u64 x1] 40)) := (Below.refl _ _).alloc (Nat.le_refl _) _
        have hgl : wr.heap.size < (wr.alloc (.cells #[.int .u64 x0, .int .u64 x1] 40)).heap.size := by simp
        have mf0 := Lib.hid (keepn bk f0)
        have mf1 := Lib.hid (keepn bk f1)
        have mf2 := Lib.hid (keepn bk f2)
        have mf3 := Lib.hid (keepn bk f3)
        have mf4 := Lib.hid (keepn bk f4)
        have mf5 := Lib.hid (keepn bk f5)
        have mf6 := Lib.hid (keepn bk f6)
        have mf7 := Lib.hid (keepn bk f7)
        have mf8 := Lib.hid (keepn bk f8)
        have mf9 := Lib.hid (keepn bk f9)
        have mf10 := Lib.hid (keepn bk f10)
        have mf11 := Lib.hid (keepn bk f11)
        have mf12 := Lib.hid (keepn bk f12)
        have mc0 := Lib.hid (keepn bk c0)
        have mc1 := Lib.hid (keepn bk c1)
        have mc2 := Lib.hid (keepn bk c2)
        have mc3 := Lib.hid (keepn bk c3)
        have mc4 := Lib.hid (keepn bk c4)
        have mc5 := Lib.hid (keepn bk c5)
        clear g0 g1
        clear f0 f1 f2 f3 f4 f5 f6 f7 f8 f9 f10 f11 f12 c0 c1 c2 c3 c4 c5 bk hown
        have f0 := mf0.out
        have f1 := mf1.out
        have f2 := mf2.out
        have f3 := mf3.out
        have f4 := mf4.out
        have f5 := mf5.out
        have f6 := mf6.out
        have f7 := mf7.out
        have f8 := mf8.out
        have f9 := mf9.out
        have f10 := mf10.out
        have f11 := mf11.out
        have f12 := mf12.out
        have c0 := mc0.out
        have c1 := mc1.out
        have c2 := mc2.out
        have c3 := mc3.out
        have c4 := mc4.out
        have c5 := mc5.out
        clear mf0 mf1 mf2 mf3 mf4 mf5 mf6 mf7 mf8 mf9 mf10 mf11 mf12 mc0 mc1 mc2 mc3 mc4 mc5
        obtain ⟨gs, hgs'⟩ : ∃ g, wr.heap.size = g := ⟨_, rfl⟩
        rw [hgs'] at ags q0 q1 hgl hlt hgs ⊢
        obtain ⟨w2, hw2⟩ : ∃ X, wr.alloc (.cells #[.int .u64 x0, .int .u64 x1] 40) = X := ⟨_, rfl⟩
        rw [hw2] at hown2 hB2 q0 q1 hgl f0 f1 f2 f3 f4 f5 f6 f7 f8 f9 f10 f11 f12 c0 c1 c2 c3 c4 c5 ⊢
        have HB2 := Lib.hid hB2
        have g0 := q0
        have g1 := q1
        clear hw2 hgs' hB2 q0 q1
        go_region_held3 (fun X => X.cell? ⟨w.heap.size, 0, none⟩ = some (.int .i64 (s 0)) ∧ X.cell? ⟨w.heap.size, 1, none⟩ = some (.int .i64 (s 1)) ∧ X.cell? ⟨w.heap.size, 2, none⟩ = some (.int .i64 (s 2)) ∧ X.cell? ⟨w.heap.size, 3, none⟩ = some (.int .i64 (s 3)) ∧ X.cell? ⟨w.heap.size, 4, none⟩ = some (.int .i64 (s 4)) ∧ X.cell? ⟨w.heap.size, 5, none⟩ = some (.int .i64 (s 5)) ∧ X.cell? ⟨w.heap.size, 6, none⟩ = some (.int .i64 (s 6)) ∧ X.cell? ⟨w.heap.size, 7, none⟩ = some (.int .i64 (s 7)) ∧ X.cell? ⟨w.heap.size, 8, none⟩ = some (.slice A n c) ∧ X.cell? ⟨w.heap.size, 9, none⟩ = some (.int .i64 (s 9)) ∧ X.cell? ⟨w.heap.size, 10, none⟩ = some (.int .i64 (s 10)) ∧ X.cell? ⟨w.heap.size, 11, none⟩ = some (.int .i64 (s 11)) ∧ X.cell? ⟨w.heap.size, 12, none⟩ = some (.int .i64 (s 12)) ∧ X.cell? ⟨b, off + j * 6, none⟩ = some (.int .i64 p) ∧ X.cell? ⟨b, off + j * 6 + 1, none⟩ = some (.int .i64 q) ∧ X.cell? ⟨b, off + j * 6 + 2, none⟩ = some (.int .i64 mo) ∧ X.cell? ⟨b, off + j * 6 + 3, none⟩ = some (.int .i64 le) ∧ X.cell? ⟨b, off + j * 6 + 4, none⟩ = some (.bool bw) ∧ X.cell? ⟨b, off + j * 6 + 5, none⟩ = some (.slice R rk rc) ∧ X.cell? ⟨gs, 0, none⟩ = some (.int .u64 x0) ∧ X.cell? ⟨gs, 1, none⟩ = some (.int .u64 x1))
          (first
            | go_keep
            | (go_split_ands
               refine ⟨?_, ?_, ?_, ?_, ?_, ?_, ?_, ?_, ?_, ?_, ?_, ?_, ?_, ?_, ?_, ?_, ?_, ?_, ?_, ?_, ?_⟩
               · (rw [hgrow.cell_far _ (by simp; omega) (Ne.symm agw)]; assumption)
               · (rw [hgrow.cell_far _ (by simp; omega) (Ne.symm agw)]; assumption)
               · (rw [hgrow.cell_far _ (by simp; omega) (Ne.symm agw)]; assumption)
               · (rw [hgrow.cell_far _ (by simp; omega) (Ne.symm agw)]; assumption)
               · (rw [hgrow.cell_far _ (by simp; omega) (Ne.symm agw)]; assumption)
               · (rw [hgrow.cell_far _ (by simp; omega) (Ne.symm agw)]; assumption)
               · (rw [hgrow.cell_far _ (by simp; omega) (Ne.symm agw)]; assumption)
               · (rw [hgrow.cell_far _ (by simp; omega) (Ne.symm agw)]; assumption)
               · (rw [hgrow.cell_far _ (by simp; omega) (Ne.symm agw)]; assumption)
               · (rw [hgrow.cell_far _ (by simp; omega) (Ne.symm agw)]; assumption)
               · (rw [hgrow.cell_far _ (by simp; omega) (Ne.symm agw)]; assumption)
               · (rw [hgrow.cell_far _ (by simp; omega) (Ne.symm agw)]; assumption)
               · (rw [hgrow.cell_far _ (by simp; omega) (Ne.symm agw)]; assumption)
               · (rw [hgrow.cell_far _ (by simp; omega) (Ne.symm agb)]; assumption)
               · (rw [hgrow.cell_far _ (by simp; omega) (Ne.symm agb)]; assumption)
               · (rw [hgrow.cell_far _ (by simp; omega) (Ne.symm agb)]; assumption)
               · (rw [hgrow.cell_far _ (by simp; omega) (Ne.symm agb)]; assumption)
               · (rw [hgrow.cell_far _ (by simp; omega) (Ne.symm agb)]; assumption)
               · (rw [hgrow.cell_far _ (by simp; omega) (Ne.symm agb)]; assumption)
               · (rw [hgrow.cell_far _ (by simp; omega) (Ne.symm ags)]; assumption)
               · (rw [hgrow.cell_far _ (by simp; omega) (Ne.symm ags)]; assumption)))
          (first
            | (go_at_call 10; refine (HKJ.out _).mono ?_; rintro e w3 ⟨rfl, hb3⟩; have own3 := mkOwn_below (w := w2.drew) hown2 hb3; have B3 := Lib.hid (HB2.out.drew.trans (hb3.mono HB2.out.drew.size)); have hz3 := B3.out.size; have hsz2 := hb3.size; have hl3 : b < w3.heap.size := (by simp at hsz2; omega); have hg3 : w.heap.size < w3.heap.size := (by omega); have hh3 : gs < w3.heap.size := (by simp at hsz2; omega); have nf0 := Lib.hid (keepn (w := w2.drew) hb3 f0); have nf1 := Lib.hid (keepn (w := w2.drew) hb3 f1); have nf2 := Lib.hid (keepn (w := w2.drew) hb3 f2); have nf3 := Lib.hid (keepn (w := w2.drew) hb3 f3); have nf4 := Lib.hid (keepn (w := w2.drew) hb3 f4); have nf5 := Lib.hid (keepn (w := w2.drew) hb3 f5); have nf6 := Lib.hid (keepn (w := w2.drew) hb3 f6); have nf7 := Lib.hid (keepn (w := w2.drew) hb3 f7); have nf8 := Lib.hid (keepn (w := w2.drew) hb3 f8); have nf9 := Lib.hid (keepn (w := w2.drew) hb3 f9); have nf10 := Lib.hid (keepn (w := w2.drew) hb3 f10); have nf11 := Lib.hid (keepn (w := w2.drew) hb3 f11); have nf12 := Lib.hid (keepn (w := w2.drew) hb3 f12); have nc0 := Lib.hid (keepn (w := w2.drew) hb3 c0); have nc1 := Lib.hid (keepn (w := w2.drew) hb3 c1); have nc2 := Lib.hid (keepn (w := w2.drew) hb3 c2); have nc3 := Lib.hid (keepn (w := w2.drew) hb3 c3); have nc4 := Lib.hid (keepn (w := w2.drew) hb3 c4); have nc5 := Lib.hid (keepn (w := w2.drew) hb3 c5); have ng0 := Lib.hid (keepn (w := w2.drew) hb3 g0); have ng1 := Lib.hid (keepn (w := w2.drew) hb3 g1); clear f0 f1 f2 f3 f4 f5 f6 f7 f8 f9 f10 f11 f12 c0 c1 c2 c3 c4 c5 g0 g1; have f0 := nf0.out; have f1 := nf1.out; have f2 := nf2.out; have f3 := nf3.out; have f4 := nf4.out; have f5 := nf5.out; have f6 := nf6.out; have f7 := nf7.out; have f8 := nf8.out; have f9 := nf9.out; have f10 := nf10.out; have f11 := nf11.out; have f12 := nf12.out; have c0 := nc0.out; have c1 := nc1.out; have c2 := nc2.out; have c3 := nc3.out; have c4 := nc4.out; have c5 := nc5.out; have g0 := ng0.out; have g1 := ng1.out; clear hb3)
            | (refine step_append_lies _ (by rfl) _ _ _ (by rfl) W.heap.size 3 i0 _ 1 8 Tryd.underlying48 hi hz0 hz1 hz2 rfl (by omega) (.slice vA j vc) j ((rowL f j).map (Value.int .i64)) (by rfl) (own3.alloc _) ⟨w3.heap.size, 0, none⟩ 1 1 [.int .i64 x] (by rfl) (by rfl) (World.news_of_block (cs := #[.int .i64 x]) (t := 3) (fr := (0, 0)) (heap_alloc_new w3 _)) (by simp [Value.oneCell']) (by omega) (by unfold maxLen; omega) (by omega) (by simp; omega) (w3.heap.size + 1) (by simp) ?_; intro gg cap2 w4 hown' hgrow hat hlt2))
        have hb5 : Below W.heap.size W w4 := by
          refine (B3.out.alloc B3.out.size _).grown hgrow (by simp; omega) (fun g hg => ?_)
          first | exact ownR_ge own3 hg | exact ownR_ge own3 hg.symm
        have HR := Lib.hid (frow_push X.out hown' hb5)
        clear hown' hgrow
        go_wp2_with fail
        go_roundw
        case rel => exact ⟨j + 1, by omega, by go_num, HR.out⟩
        case measure => simp [intOf]; omega
      · rw [st_out hK] at KJ
        have HKJ := Lib.hid KJ
        have jK : (K : Int) ≤ (j : Int) := by omega
        have decK : decide (j < K) = false := by simpa using hK
        clear KJ RKj hb
        go_wp2_with fail
        have hown2 := hown.alloc (.cells #[.int .u64 0, .int .u64 0] 40)
        have hB2 := HB.out.alloc HB.out.size (.cells #[.int .u64 0, .int .u64 0] 40)
        have ags : (Value.slice vA j vc).ownBlock ≠ some wr.heap.size := fun e => by have := hown.lt _ e; omega
        have agb : (Value.slice vA j vc).ownBlock ≠ some b := fun e => by have := ownR_ge hown e; omega
        have agw : (Value.slice vA j vc).ownBlock ≠ some w.heap.size := fun e => by have := ownR_ge hown e; omega
        have q0 : (wr.alloc (.cells #[.int .u64 0, .int .u64 0] 40)).cell? ⟨wr.heap.size, 0, none⟩ = some (.int .u64 0) := (Blk.new wr #[.int .u64 0, .int .u64 0] 40).cell 0
        have q1 : (wr.alloc (.cells #[.int .u64 0, .int .u64 0] 40)).cell? ⟨wr.heap.size, 1, none⟩ = some (.int .u64 0) := (Blk.new wr #[.int .u64 0, .int .u64 0] 40).cell 1
        have bk : Below wr.heap.size wr (wr.alloc (.cells #[.int .u64 0, .int .u64 0] 40)) := (Below.refl _ _).alloc (Nat.le_refl _) _
        have hgl : wr.heap.size < (wr.alloc (.cells #[.int .u64 0, .int .u64 0] 40)).heap.size := by simp
        have mf0 := Lib.hid (keepn bk f0)
        have mf1 := Lib.hid (keepn bk f1)
        have mf2 := Lib.hid (keepn bk f2)
        have mf3 := Lib.hid (keepn bk f3)
        have mf4 := Lib.hid (keepn bk f4)
        have mf5 := Lib.hid (keepn bk f5)
        have mf6 := Lib.hid (keepn bk f6)
        have mf7 := Lib.hid (keepn bk f7)
        have mf8 := Lib.hid (keepn bk f8)
        have mf9 := Lib.hid (keepn bk f9)
        have mf10 := Lib.hid (keepn bk f10)
        have mf11 := Lib.hid (keepn bk f11)
        have mf12 := Lib.hid (keepn bk f12)
        have mc0 := Lib.hid (keepn bk c0)
        have mc1 := Lib.hid (keepn bk c1)
        have mc2 := Lib.hid (keepn bk c2)
        have mc3 := Lib.hid (keepn bk c3)
        have mc4 := Lib.hid (keepn bk c4)
        have mc5 := Lib.hid (keepn bk c5)
        clear f0 f1 f2 f3 f4 f5 f6 f7 f8 f9 f10 f11 f12 c0 c1 c2 c3 c4 c5 bk hown
        have f0 := mf0.out
        have f1 := mf1.out
        have f2 := mf2.out
        have f3 := mf3.out
        have f4 := mf4.out
        have f5 := mf5.out
        have f6 := mf6.out
        have f7 := mf7.out
        have f8 := mf8.out
        have f9 := mf9.out
        have f10 := mf10.out
        have f11 := mf11.out
        have f12 := mf12.out
        have c0 := mc0.out
        have c1 := mc1.out
        have c2 := mc2.out
        have c3 := mc3.out
        have c4 := mc4.out
        have c5 := mc5.out
        clear mf0 mf1 mf2 mf3 mf4 mf5 mf6 mf7 mf8 mf9 mf10 mf11 mf12 mc0 mc1 mc2 mc3 mc4 mc5
        obtain ⟨gs, hgs'⟩ : ∃ g, wr.heap.size = g := ⟨_, rfl⟩
        rw [hgs'] at ags q0 q1 hgl hlt hgs ⊢
        obtain ⟨w2, hw2⟩ : ∃ X, wr.alloc (.cells #[.int .u64 0, .int .u64 0] 40) = X := ⟨_, rfl⟩
        rw [hw2] at hown2 hB2 q0 q1 hgl f0 f1 f2 f3 f4 f5 f6 f7 f8 f9 f10 f11 f12 c0 c1 c2 c3 c4 c5 ⊢
        have HB2 := Lib.hid hB2
        have g0 := q0
        have g1 := q1
        clear hw2 hgs' hB2 q0 q1
        go_region_held3 (fun X => X.cell? ⟨w.heap.size, 0, none⟩ = some (.int .i64 (s 0)) ∧ X.cell? ⟨w.heap.size, 1, none⟩ = some (.int .i64 (s 1)) ∧ X.cell? ⟨w.heap.size, 2, none⟩ = some (.int .i64 (s 2)) ∧ X.cell? ⟨w.heap.size, 3, none⟩ = some (.int .i64 (s 3)) ∧ X.cell? ⟨w.heap.size, 4, none⟩ = some (.int .i64 (s 4)) ∧ X.cell? ⟨w.heap.size, 5, none⟩ = some (.int .i64 (s 5)) ∧ X.cell? ⟨w.heap.size, 6, none⟩ = some (.int .i64 (s 6)) ∧ X.cell? ⟨w.heap.size, 7, none⟩ = some (.int .i64 (s 7)) ∧ X.cell? ⟨w.heap.size, 8, none⟩ = some (.slice A n c) ∧ X.cell? ⟨w.heap.size, 9, none⟩ = some (.int .i64 (s 9)) ∧ X.cell? ⟨w.heap.size, 10, none⟩ = some (.int .i64 (s 10)) ∧ X.cell? ⟨w.heap.size, 11, none⟩ = some (.int .i64 (s 11)) ∧ X.cell? ⟨w.heap.size, 12, none⟩ = some (.int .i64 (s 12)) ∧ X.cell? ⟨b, off + j * 6, none⟩ = some (.int .i64 p) ∧ X.cell? ⟨b, off + j * 6 + 1, none⟩ = some (.int .i64 q) ∧ X.cell? ⟨b, off + j * 6 + 2, none⟩ = some (.int .i64 mo) ∧ X.cell? ⟨b, off + j * 6 + 3, none⟩ = some (.int .i64 le) ∧ X.cell? ⟨b, off + j * 6 + 4, none⟩ = some (.bool bw) ∧ X.cell? ⟨b, off + j * 6 + 5, none⟩ = some (.slice R rk rc) ∧ X.cell? ⟨gs, 0, none⟩ = some (.int .u64 0) ∧ X.cell? ⟨gs, 1, none⟩ = some (.int .u64 0))
          (first
            | go_keep
            | (go_split_ands
               refine ⟨?_, ?_, ?_, ?_, ?_, ?_, ?_, ?_, ?_, ?_, ?_, ?_, ?_, ?_, ?_, ?_, ?_, ?_, ?_, ?_, ?_⟩
               · (rw [hgrow.cell_far _ (by simp; omega) (Ne.symm agw)]; assumption)
               · (rw [hgrow.cell_far _ (by simp; omega) (Ne.symm agw)]; assumption)
               · (rw [hgrow.cell_far _ (by simp; omega) (Ne.symm agw)]; assumption)
               · (rw [hgrow.cell_far _ (by simp; omega) (Ne.symm agw)]; assumption)
               · (rw [hgrow.cell_far _ (by simp; omega) (Ne.symm agw)]; assumption)
               · (rw [hgrow.cell_far _ (by simp; omega) (Ne.symm agw)]; assumption)
               · (rw [hgrow.cell_far _ (by simp; omega) (Ne.symm agw)]; assumption)
               · (rw [hgrow.cell_far _ (by simp; omega) (Ne.symm agw)]; assumption)
               · (rw [hgrow.cell_far _ (by simp; omega) (Ne.symm agw)]; assumption)
               · (rw [hgrow.cell_far _ (by simp; omega) (Ne.symm agw)]; assumption)
               · (rw [hgrow.cell_far _ (by simp; omega) (Ne.symm agw)]; assumption)
               · (rw [hgrow.cell_far _ (by simp; omega) (Ne.symm agw)]; assumption)
               · (rw [hgrow.cell_far _ (by simp; omega) (Ne.symm agw)]; assumption)
               · (rw [hgrow.cell_far _ (by simp; omega) (Ne.symm agb)]; assumption)
               · (rw [hgrow.cell_far _ (by simp; omega) (Ne.symm agb)]; assumption)
               · (rw [hgrow.cell_far _ (by simp; omega) (Ne.symm agb)]; assumption)
               · (rw [hgrow.cell_far _ (by simp; omega) (Ne.symm agb)]; assumption)
               · (rw [hgrow.cell_far _ (by simp; omega) (Ne.symm agb)]; assumption)
               · (rw [hgrow.cell_far _ (by simp; omega) (Ne.symm agb)]; assumption)
               · (rw [hgrow.cell_far _ (by simp; omega) (Ne.symm ags)]; assumption)
               · (rw [hgrow.cell_far _ (by simp; omega) (Ne.symm ags)]; assumption)))
          (first
            | (go_at_call 10; refine (HKJ.out _).mono ?_; rintro e w3 ⟨rfl, hb3⟩; have own3 := mkOwn_below (w := w2.drew) hown2 hb3; have B3 := Lib.hid (HB2.out.drew.trans (hb3.mono HB2.out.drew.size)); have hz3 := B3.out.size; have hsz2 := hb3.size; have hl3 : b < w3.heap.size := (by simp at hsz2; omega); have hg3 : w.heap.size < w3.heap.size := (by omega); have hh3 : gs < w3.heap.size := (by simp at hsz2; omega); have nf0 := Lib.hid (keepn (w := w2.drew) hb3 f0); have nf1 := Lib.hid (keepn (w := w2.drew) hb3 f1); have nf2 := Lib.hid (keepn (w := w2.drew) hb3 f2); have nf3 := Lib.hid (keepn (w := w2.drew) hb3 f3); have nf4 := Lib.hid (keepn (w := w2.drew) hb3 f4); have nf5 := Lib.hid (keepn (w := w2.drew) hb3 f5); have nf6 := Lib.hid (keepn (w := w2.drew) hb3 f6); have nf7 := Lib.hid (keepn (w := w2.drew) hb3 f7); have nf8 := Lib.hid (keepn (w := w2.drew) hb3 f8); have nf9 := Lib.hid (keepn (w := w2.drew) hb3 f9); have nf10 := Lib.hid (keepn (w := w2.drew) hb3 f10); have nf11 := Lib.hid (keepn (w := w2.drew) hb3 f11); have nf12 := Lib.hid (keepn (w := w2.drew) hb3 f12); have nc0 := Lib.hid (keepn (w := w2.drew) hb3 c0); have nc1 := Lib.hid (keepn (w := w2.drew) hb3 c1); have nc2 := Lib.hid (keepn (w := w2.drew) hb3 c2); have nc3 := Lib.hid (keepn (w := w2.drew) hb3 c3); have nc4 := Lib.hid (keepn (w := w2.drew) hb3 c4); have nc5 := Lib.hid (keepn (w := w2.drew) hb3 c5); have ng0 := Lib.hid (keepn (w := w2.drew) hb3 g0); have ng1 := Lib.hid (keepn (w := w2.drew) hb3 g1); clear f0 f1 f2 f3 f4 f5 f6 f7 f8 f9 f10 f11 f12 c0 c1 c2 c3 c4 c5 g0 g1; have f0 := nf0.out; have f1 := nf1.out; have f2 := nf2.out; have f3 := nf3.out; have f4 := nf4.out; have f5 := nf5.out; have f6 := nf6.out; have f7 := nf7.out; have f8 := nf8.out; have f9 := nf9.out; have f10 := nf10.out; have f11 := nf11.out; have f12 := nf12.out; have c0 := nc0.out; have c1 := nc1.out; have c2 := nc2.out; have c3 := nc3.out; have c4 := nc4.out; have c5 := nc5.out; have g0 := ng0.out; have g1 := ng1.out; clear hb3)
            | (refine step_append_lies _ (by rfl) _ _ _ (by rfl) W.heap.size 3 i0 _ 1 8 Tryd.underlying48 hi hz0 hz1 hz2 rfl (by omega) (.slice vA j vc) j ((rowL f j).map (Value.int .i64)) (by rfl) (own3.alloc _) ⟨w3.heap.size, 0, none⟩ 1 1 [.int .i64 x] (by rfl) (by rfl) (World.news_of_block (cs := #[.int .i64 x]) (t := 3) (fr := (0, 0)) (heap_alloc_new w3 _)) (by simp [Value.oneCell']) (by omega) (by unfold maxLen; omega) (by omega) (by simp; omega) (w3.heap.size + 1) (by simp) ?_; intro gg cap2 w4 hown' hgrow hat hlt2))
        have hb5 : Below W.heap.size W w4 := by
          refine (B3.out.alloc B3.out.size _).grown hgrow (by simp; omega) (fun g hg => ?_)
          first | exact ownR_ge own3 hg | exact ownR_ge own3 hg.symm
        have HR := Lib.hid (frow_push X.out hown' hb5)
        clear hown' hgrow
        go_wp2_with fail
        go_roundw
        case rel => exact ⟨j + 1, by omega, by go_num, HR.out⟩
        case measure => simp [intOf]; omega
    · obtain rfl : j = k := by omega
      have h' : ¬ ((j : Int) < j) := by omega
      obtain ⟨vA, vc, e, hR⟩ := frow_rd ⟨hown, hb⟩ (fun i hi => by have := HBD.out i hi; omega)
      subst e
      have hlen := rowL_len f j
      have KL := rleast_any vA vc j (rowL f j) wr hlen hR (by omega)
      
      have HL := Lib.hid KL
      have HF := Lib.hid (HB0.out.trans (hb.mono HB0.out.size))
      clear hown hb hR hlen KL
      go_wp2_with fail
      refine HL.out.mono ?_
      rintro e w3 ⟨rfl, q3, rfl⟩
      go_wp2_with fail
      go_ret
      exact ⟨rfl, below_drewN HF.out _⟩
end Go.Proofs.YtbjcigkakeffmaaDoor
